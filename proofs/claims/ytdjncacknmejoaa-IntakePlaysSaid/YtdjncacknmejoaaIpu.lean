/-
  Contract of package intake's Put: as many of the bytes as there is room for. Memory that was there stays, but for the intake's own two blocks. No other condition.
-/
import Derived.Test.YtdjncacknmejoaaItp
namespace Go.Proofs.Ytdjncacknmejoaa.It
set_option maxRecDepth 100000
open Go.RowKit Go.Proofs.Ytdjncacknmejoaa.Utf Go.Proofs.Ytdjncacknmejoaa.Enc Go.Proofs.Ytdjncacknmejoaa.Fr

def GivesPut (g h : Nat) (s : St) (n : Nat) (l : List Nat) (w : World) (e : Ending) (w' : World) : Prop :=
  e = .returned (.int .i64 (min n (room s) : Nat)) ∧ In w' g h (put s l) ∧ Off (Xi g h) w w'
theorem room_le {s : St} (h : Ok s) : room s ≤ 4104 := by
  have := h.hi
  unfold room
  split <;> omega
/-- The intake behind a store of its row. -/
theorem In.putIn {w w2 : World} {g h n : Nat} {s : St} {R l : List Nat} (i : In w g h s) (hb : s.bad = false) (hl : ∀ x ∈ l, x < 256) (hll : l.length = n) (hq : n ≤ room s) (hR : R.length = s.most + 8) (ht : R.take s.held.length = s.held) (b2 : Blk w2 h (splice R s.held.length l)) (ho : Off (fun i => i = h) w w2) :
    In (w2.setCell ⟨g, 1, none⟩ (.slice (some ⟨h, 0, none⟩) (s.held.length + n) (s.most + 8))) g h (put s l) ∧ Off (Xi g h) w (w2.setCell ⟨g, 1, none⟩ (.slice (some ⟨h, 0, none⟩) (s.held.length + n) (s.most + 8))) := by
  have hne := i.ne
  have hobj := (ho.block g i.glt hne).trans i.obj
  have hle := i.ok.len
  have hroom : room s = s.most + 8 - s.held.length := by unfold room; rw [hb]; rfl
  have hput : put s l = { s with held := s.held ++ l } := by unfold put; rw [List.take_of_length_le (by omega)]
  have hok := i.ok.put hl
  rw [hput] at hok ⊢
  refine ⟨⟨hok, ?_, fun _ => ⟨_, ⟨?_, b2.lim⟩, ?_, ?_⟩, hne, ?_⟩, ?_⟩
  · have : hv { s with held := s.held ++ l } h = .slice (some ⟨h, 0, none⟩) (s.held.length + n) (s.most + 8) := by
      rw [hv_ok (s := { s with held := s.held ++ l }) hb]
      simp [hll]
    rw [this]
    simp [World.setCell, Array.getElem?_modify, hobj]
  · rw [Below.heap_setCell _ _ _ _ (by show h ≠ g; omega)]
    exact b2.row
  · rw [length_splice _ _ _ (by omega)]
    exact hR
  · show (splice R s.held.length l).take (s.held ++ l).length = s.held ++ l
    unfold splice
    rw [ht, ← List.append_assoc, List.take_left' rfl]
  · have := i.lt
    have := ho.size
    simp
    omega
  · exact (ho.mono fun i _ h => Or.inr h).trans (Off.set _ _ _ (Or.inl rfl))
set_option maxHeartbeats 2000000 in
theorem put_any (g h : Nat) (s : St) (A : Option Addr) (n c : Nat) (l : List Nat) (w : World) (i : In w g h s) (hr : Rd .u8 256 w w.heap.size A n l) (hnc : n ≤ c) (hn : n ≤ 9223372036854775807) : Calls Try.prog 14 #[.pointer (some ⟨g, 0, none⟩), .slice A n c] w (GivesPut g h s n l w) := by
  have hrm := room_any g h s w i
  have hle := room_le i.ok
  have hl := hr.len
  have hlim := hr.lim
  obtain ⟨r, hr0⟩ : ∃ r, room s = r := ⟨_, rfl⟩
  obtain ⟨q, hq⟩ : ∃ q, min n r = q := ⟨_, rfl⟩
  have hm : (r < n ∧ r = q) ∨ (¬ r < n ∧ n = q) := by omega
  have HR0 := Lib.hid hr0
  rw [hr0] at hrm hle
  have HRM := Lib.hid hrm
  have HI := Lib.hid i
  have HR := Lib.hid hr
  have hqn : q ≤ n := by omega
  have hqr : q ≤ r := by omega
  have HQ : Hid (min n (room s) = q) := Lib.hid (by rw [hr0]; exact hq)
  have hput : put s l = put s (l.take q) := by
    unfold put
    rw [hr0, List.take_take]
    congr 2
    rw [show min r q = q by omega]
    by_cases hnr : n ≤ r
    · rw [List.take_of_length_le (by omega), List.take_of_length_le (by omega)]
    · congr 1; omega
  have HP := Lib.hid hput
  clear hrm i hq hr0 hput
  by_cases h0 : q = 0
  · subst h0
    have hput0 : put s (l.take 0) = s := by unfold put; simp
    rcases hm with ⟨hlt, rfl⟩ | ⟨hlt, rfl⟩
    · clear hl hlim hr
      go_enter Try.func14, Try.ntmps14
      go_wp2_with (first
        | (go_at_call 21; (with_reducible refine HRM.out.mono ?_); rintro e w1 ⟨rfl, hb1⟩)
        | fail)
      go_ret
      exact ⟨by rw [HQ.out]; rfl, by rw [HP.out, hput0]; exact HI.out.call hb1, Off.of _ hb1⟩
    · clear hl hlim hr
      go_enter Try.func14, Try.ntmps14
      go_wp2_with (first
        | (go_at_call 21; (with_reducible refine HRM.out.mono ?_); rintro e w1 ⟨rfl, hb1⟩)
        | fail)
      go_ret
      exact ⟨by rw [HQ.out]; rfl, by rw [HP.out, hput0]; exact HI.out.call hb1, Off.of _ hb1⟩
  · have hbad : s.bad = false := by
      have := HR0.out
      unfold room at this
      rcases hb : s.bad with _ | _
      · rfl
      · rw [hb] at this; simp at this; omega
    obtain ⟨R, _, hRl, hRt⟩ := HI.out.row hbad
    obtain ⟨k, hk⟩ : ∃ k, s.held.length = k := ⟨_, rfl⟩
    obtain ⟨M, hM⟩ : ∃ M, s.most + 8 = M := ⟨_, rfl⟩
    have hrr : r = M - k := by have := HR0.out; unfold room at this; rw [hbad] at this; simp at this; omega
    have hkM : k ≤ M := by have := HI.out.ok.len; omega
    have hML : M ≤ 4104 := by have := HI.out.ok.hi; omega
    have HK := Lib.hid hk
    have HM := Lib.hid hM
    have HRL := Lib.hid hRl
    have HRT := Lib.hid hRt
    have HLT : Hid ((l.take q).length = q) := Lib.hid (by rw [List.length_take]; omega)
    have HLX : Hid (∀ x ∈ l.take q, x < 256) := Lib.hid fun x hx => hlim x (List.mem_of_mem_take hx)
    have hq0 : (0 : Int) < (q : Int) := by omega
    obtain ⟨p1, p2⟩ := cut_to A n c q hqn hnc
    have p1' := fun W => p1 W q rfl
    have p2' := fun W => p2 W q rfl
    have hd : decide ((r : Int) < (n : Int)) = decide (r < n) := by simp
    have HRD : Hid (∀ wx : World, Below w.heap.size w wx → Rd .u8 256 wx wx.heap.size A q (l.take q)) := Lib.hid fun wx hb => (hr.call hb).take hqn
    have HC : Hid (∀ wx : World, Below w.heap.size w wx → wx.cell? ⟨g, 1, none⟩ = some (.slice (some ⟨h, 0, none⟩) k M) ∧ (∀ j, wx.frozen? ⟨g, j, none⟩ = false) ∧ ∃ R, Blk wx h R ∧ R.length = M ∧ R.take k = s.held) := Lib.hid fun wx hb => by
      have i2 := HI.out.call hb
      obtain ⟨_, c1, _, _, cf⟩ := i2.cells
      obtain ⟨R, b, h1, h2⟩ := i2.row hbad
      rw [hv_ok hbad, hk, hM] at c1
      exact ⟨c1, cf, R, b, by omega, by rw [← hk]; exact h2⟩
    clear hl hlim hr p1 p2 hk hM hRl hRt
    have hkq : k + q ≤ M := by omega
    have hglt := HI.out.glt
    have hne := HI.out.ne
    rcases hm with ⟨hlt, rfl⟩ | ⟨hlt, rfl⟩
    · clear hrr
      go_enter Try.func14, Try.ntmps14
      go_wp2_with (first
        | (go_at_call 21; (with_reducible refine HRM.out.mono ?_); rintro e w1 ⟨rfl, hb1⟩)
        | fail)
      obtain ⟨c1, cf, R, b1, hRl, hRt⟩ := HC.out w1 hb1
      have hrd := HRD.out w1 hb1
      have b1d : Blk w1.drew h R := ⟨b1.row, b1.lim⟩
      have hrdd : Rd .u8 256 w1.drew w1.heap.size A r (l.take r) := hrd
      have hgl1 := Nat.lt_of_lt_of_le hglt hb1.size
      go_region_law (refine step_room8 (l := l.take r) (off := 0) (n := k) (c := M) (m := r) (d := c) (A := A) rfl _ _ rfl rfl b1d rfl hrdd (by omega) (by omega) ?_; intro w2 hb2 ho2; have hx2 := ho2.block g hgl1 (fun e => hne e); have c1' : w2.cell? ⟨g, 1, none⟩ = some (.slice (some ⟨h, 0, none⟩) k M) := (World.cell?_of_block (a := ⟨g, 1, none⟩) hx2).trans c1; have cf' : ∀ j, w2.frozen? ⟨g, j, none⟩ = false := fun j => (World.frozen?_of_block (a := ⟨g, j, none⟩) hx2).trans (cf j))
      all_goals go_wp2
      go_ret
      have i1 := (HI.out.call hb1).drew
      have hq2 : r ≤ room s := by rw [HR0.out]; omega
      have hfin := In.putIn (n := r) i1 hbad HLX.out HLT.out hq2 (by rw [hRl, HM.out]) (by rw [HK.out]; exact hRt) (by rw [HK.out, ← Nat.zero_add k]; exact hb2) ho2
      rw [HK.out, HM.out, ← HP.out] at hfin
      exact ⟨by rw [HQ.out]; rfl, hfin.1, ((Off.of _ hb1).drew).trans hfin.2⟩
    · clear hrr
      go_enter Try.func14, Try.ntmps14
      go_wp2_with (first
        | (go_at_call 21; (with_reducible refine HRM.out.mono ?_); rintro e w1 ⟨rfl, hb1⟩)
        | fail)
      obtain ⟨c1, cf, R, b1, hRl, hRt⟩ := HC.out w1 hb1
      have hrd := HRD.out w1 hb1
      have b1d : Blk w1.drew h R := ⟨b1.row, b1.lim⟩
      have hrdd : Rd .u8 256 w1.drew w1.heap.size A n (l.take n) := hrd
      have hgl1 := Nat.lt_of_lt_of_le hglt hb1.size
      go_region_law (refine step_room8 (l := l.take n) (off := 0) (n := k) (c := M) (m := n) (d := c) (A := A) rfl _ _ rfl rfl b1d rfl hrdd (by omega) (by omega) ?_; intro w2 hb2 ho2; have hx2 := ho2.block g hgl1 (fun e => hne e); have c1' : w2.cell? ⟨g, 1, none⟩ = some (.slice (some ⟨h, 0, none⟩) k M) := (World.cell?_of_block (a := ⟨g, 1, none⟩) hx2).trans c1; have cf' : ∀ j, w2.frozen? ⟨g, j, none⟩ = false := fun j => (World.frozen?_of_block (a := ⟨g, j, none⟩) hx2).trans (cf j))
      all_goals go_wp2
      go_ret
      have i1 := (HI.out.call hb1).drew
      have hq2 : n ≤ room s := by rw [HR0.out]; omega
      have hfin := In.putIn (n := n) i1 hbad HLX.out HLT.out hq2 (by rw [hRl, HM.out]) (by rw [HK.out]; exact hRt) (by rw [HK.out, ← Nat.zero_add k]; exact hb2) ho2
      rw [HK.out, HM.out, ← HP.out] at hfin
      exact ⟨by rw [HQ.out]; rfl, hfin.1, ((Off.of _ hb1).drew).trans hfin.2⟩
end Go.Proofs.Ytdjncacknmejoaa.It
