/-
  The anchor of layer 12: it answers true. What its laws share: Room, Put, Next at a state that is known. Memory that was there stays. No condition.
-/
import Derived.Test.YtdjncacknmejoaaIwk
namespace Go.Proofs.Ytdjncacknmejoaa.It
set_option maxRecDepth 100000
open Go.RowKit Go.Proofs.Ytdjncacknmejoaa.Utf Go.Proofs.Ytdjncacknmejoaa.Enc Go.Proofs.Ytdjncacknmejoaa.Fr

theorem wpList_grow8 {w : World} {ops : Array Oper} {rest : List Oper} {o : Oper} {a : Act} {Q : Exit → Act → World → Prop} (hgd : o.guard = none) (s x : Operand)
    (ho : o.op = .call { callee := .builtin .append, args := #[s, x], argTypes := #[24, 24] })
    {B B' n c m d : Nat} {A A' : Option Addr} {L l : List Nat} (hs : a.eval s = .slice A n c) (hr : Rd .u8 256 w B A n L) (hx : a.eval x = .slice A' m d) (hr' : Rd .u8 256 w B' A' m l) (hc : c < n + m) (hsz : n + m ≤ 17592186044416)
    (hK : ∀ c2 w', n + m ≤ c2 → Below w.heap.size w w' → Blk w' w.heap.size (L ++ l ++ List.replicate (c2 - (n + m)) 0) → wpList Try.prog ops Q rest (a.put o.dst (.slice (some ⟨w.heap.size, 0, none⟩) (n + m) c2)) w') :
    wpList Try.prog ops Q (o :: rest) a w := by
  refine wpList_plain hgd fun KK hK' => ?_
  obtain ⟨c2, h2, w', hrun, hb, hB⟩ := run_grow8 (d := d) o.type hr hr' hc hsz
  unfold Oper.wp execOp
  simp only [ho, resolve, invoke, builtin, Sem.run_bind, Sem.run_pure, Result.andThen_ok, List.map_toArray, List.map_cons, List.map_nil, hs, hx, hrun]
  exact hK' _ _ (hK c2 w' h2 hb hB)
/-- An answer; the intake behind it; memory that was there stays, but for its two blocks. -/
def GivesI (v : Value) (g h : Nat) (s : St) (w : World) (e : Ending) (w' : World) : Prop := e = .returned v ∧ In w' g h s ∧ Off (Xi g h) w w'
theorem put_s {g h n c : Nat} {s : St} {A : Option Addr} {l : List Nat} {w : World} (i : In w g h s) (hr : Rd .u8 256 w w.heap.size A n l) (hnc : n ≤ c) (hn : n ≤ 9223372036854775807) (s' : St) (Q : Int) (hs : put s l = s') (hq : ((min n (room s) : Nat) : Int) = Q) :
    Calls Try.prog 14 #[.pointer (some ⟨g, 0, none⟩), .slice A n c] w (GivesI (.int .i64 Q) g h s' w) :=
  (put_any g h s A n c l w i hr hnc hn).mono fun e w' ⟨h1, h2, h3⟩ => ⟨by rw [h1, hq], hs ▸ h2, h3⟩
theorem room_s {g h : Nat} {s : St} {w : World} (i : In w g h s) (Q : Int) (hq : (room s : Int) = Q) : Calls Try.prog 21 #[.pointer (some ⟨g, 0, none⟩)] w (Says (.int .i64 Q) w) := (room_any g h s w i).mono fun e w' ⟨h1, h2⟩ => ⟨by rw [h1, hq], h2⟩
theorem held_s {g h : Nat} {s : St} {w : World} (i : In w g h s) (Q : Int) (hq : (s.held.length : Int) = Q) : Calls Try.prog 20 #[.pointer (some ⟨g, 0, none⟩)] w (fun e w' => e = .returned (.int .i64 Q) ∧ w = w') := (held_any g h s w i).mono fun e w' ⟨h1, h2⟩ => ⟨by rw [h1, hq], h2⟩
theorem next_1 {s : St} (h : kind s = 1) : next s = { s with held := s.held.drop 8, went := true } := by unfold next; rw [h]; simp
theorem next_2 {s : St} (h : kind s = 2) (n : Nat) (hn : nF s.held = n) : next s = { s with held := s.held.drop n } := by unfold next; rw [h, hn]; simp
theorem next_most (s : St) : (next s).most = s.most := by unfold next; (repeat' split) <;> rfl
theorem next_on {s : St} (h : kind s = 1 ∨ kind s = 2) : (next s).bad = false ∧ (next s).held.length + 8 ≤ s.held.length := by
  rcases h with h | h
  · have hk := kind_header h
    rw [next_1 h]
    refine ⟨hk.1, ?_⟩
    show (s.held.drop 8).length + 8 ≤ _
    rw [List.length_drop]
    omega
  · have hk := kind_frame h
    have he := erF_ok hk.2.2
    rw [next_2 h _ rfl]
    refine ⟨hk.1, ?_⟩
    show (s.held.drop (nF s.held)).length + 8 ≤ _
    rw [List.length_drop]
    omega
def GivesNx (K CH : Int) (n : Nat) (bd : List Nat) (g h : Nat) (s : St) (w : World) (e : Ending) (w' : World) : Prop :=
  ∃ A c, e = .returned (.tuple #[.int .u8 K, .agg #[.int .u16 CH, .slice A n c]]) ∧ Own .u8 256 5 w' w.heap.size A n c bd ∧ In w' g h s ∧ Off (Xi g h) w w'
theorem next_at {g h : Nat} {s : St} {w : World} (i : In w g h s) (K CH : Int) (n : Nat) (bd : List Nat) (s' : St) (hk : (kind s : Int) = K) (hch : (chN s : Int) = CH) (hbd : bdN s = bd) (hn : bd.length = n) (hs : next s = s') :
    Calls Try.prog 17 #[.pointer (some ⟨g, 0, none⟩)] w (GivesNx K CH n bd g h s' w) := by
  subst hk hch hbd hn hs
  exact next_any g h s w i
theorem offB {w w1 w2 : World} {g h : Nat} (hb : Below w.heap.size w w1) (hg : w.heap.size ≤ g) (hh : w.heap.size ≤ h) (ho : Off (Xi g h) w1 w2) : Below w.heap.size w w2 := hb.trans (ho.below hb.size fun i hi e => by rcases e with e | e <;> omega)
theorem chN0 {s : St} (h : kind s ≠ 2) : ((chN s : Nat) : Int) = 0 := by unfold chN; rw [if_neg h]; simp
theorem bdN0 {s : St} (h : kind s ≠ 2) : bdN s = [] := by unfold bdN; rw [if_neg h]
theorem new_512 (w : World) : Calls Try.prog 11 #[.int .u32 512] w (GivesNew 512 w) := new_yes 512 w (by omega) (by omega)
set_option maxHeartbeats 2000000 in
theorem works12_any (w : World) : Calls Try.prog 10 #[] w (Says (.bool true) w) := by
  go_enter Try.func10, Try.ntmps10
  go_wp2_with fail
  (with_reducible refine (new_512 _).mono ?_)
  rintro e w1 ⟨g, h, rfl, hi1, hg, hh, hb1⟩
  go_wp2_with fail
  (with_reducible refine (room_s hi1 520 rfl).mono ?_)
  rintro e w2 ⟨rfl, hb2⟩
  have hi2 := hi1.call hb2
  have hbw2 := bn hb1 hb2
  clear hi1 hb1 hb2
  go_wp2_with fail
  (with_reducible refine (start_any _).mono ?_)
  rintro e w3 ⟨gs, rfl, hs3, hgs, hb3⟩
  have hi3 := hi2.call hb3
  have hbw3 := bn hbw2 hb3
  have hrl : Rd .u8 256 (w3.alloc (.cells #[.int .u8 0, .int .u8 0, .int .u8 0, .int .u8 8] 5)) (w3.heap.size + 1) (some ⟨w3.heap.size, 0, none⟩) 4 [0, 0, 0, 8] := rd_lit8 w3 [0, 0, 0, 8] 4 rfl (by decide)
  have hrs := hs3.rd.alloc (Nat.le_refl _) (.cells #[.int .u8 0, .int .u8 0, .int .u8 0, .int .u8 8] 5)
  have hb3' : Below w.heap.size w (w3.alloc (.cells #[.int .u8 0, .int .u8 0, .int .u8 0, .int .u8 8] 5)) := ba hbw3 _
  have hi3' := hi3.call (ba (Below.refl _ _) (.cells #[.int .u8 0, .int .u8 0, .int .u8 0, .int .u8 8] 5))
  clear hi2 hbw2 hs3 hi3 hbw3
  go_wp2_with (first
    | (at_builtin; refine wpList_grow8 (L := hdr) (l := [0, 0, 0, 8]) rfl _ _ rfl rfl hrs rfl hrl (by omega) (by omega) ?_; intro c4 w4 hc4 hb4 hB4)
    | fail)
  rw [World.size_alloc] at hB4
  have hrd4 := hB4.rd (o := 0) (n := 12) (B := w4.heap.size) (by rw [List.length_append]; show 12 ≤ 12 + _; omega) hB4.lt
  have e12 : ((hdr ++ [0, 0, 0, 8] ++ List.replicate (c4 - (8 + 4)) 0).drop 0).take 12 = hdr ++ [0, 0, 0, 8] := List.take_left' rfl
  rw [e12] at hrd4
  have hi4 := hi3'.call hb4
  have hbw4 := bn hb3' hb4
  clear hrl hrs hb3' hi3' hb4 hB4 e12
  (with_reducible refine (put_s hi4 hrd4 (by omega) (by omega) ⟨512, hdr ++ [0, 0, 0, 8], false, false⟩ 12 rfl rfl).mono ?_)
  rintro e w5 ⟨rfl, hi5, ho5⟩
  have hbw5 := offB hbw4 hg hh ho5
  clear hi4 hbw4 ho5 hrd4
  go_wp2_with fail
  (with_reducible refine (next_at hi5 1 0 0 [] ⟨512, [0, 0, 0, 8], false, true⟩ (by decide) (by decide) (by decide) rfl (next_1 (by decide))).mono ?_)
  rintro e w6 ⟨A6, c6, rfl, _, hi6, ho6⟩
  have hbw6 := ba (offB hbw5 hg hh ho6) (.cells #[.int .u16 0, .slice A6 0 c6] 39)
  have hi6 := hi6.call (ba (Below.refl _ _) (.cells #[.int .u16 0, .slice A6 0 c6] 39))
  clear hi5 hbw5 ho6
  go_wp2_with fail
  (with_reducible refine (next_at hi6 0 0 0 [] ⟨512, [0, 0, 0, 8], false, true⟩ (by decide) (by decide) (by decide) rfl (next_none (by decide))).mono ?_)
  rintro e w7 ⟨A7, c7, rfl, _, hi7, ho7⟩
  have hbw7 := ba (offB hbw6 hg hh ho7) (.cells #[.int .u16 0, .slice A7 0 c7] 39)
  have hi7 := hi7.call (ba (Below.refl _ _) (.cells #[.int .u16 0, .slice A7 0 c7] 39))
  clear hi6 hbw6 ho7
  go_wp2_with fail
  have hr8 : Rd .u8 256 ((w7.alloc (.cells #[.int .u16 0, .slice A7 0 c7] 39)).alloc (.cells #[.int .u8 2, .int .u8 0, .int .u8 0, .int .u8 3] 5)) ((w7.alloc (.cells #[.int .u16 0, .slice A7 0 c7] 39)).heap.size + 1) (some ⟨(w7.alloc (.cells #[.int .u16 0, .slice A7 0 c7] 39)).heap.size, 0, none⟩) 4 [2, 0, 0, 3] := rd_lit8 _ [2, 0, 0, 3] 4 rfl (by decide)
  have hi8 := hi7.call (ba (Below.refl _ _) (.cells #[.int .u8 2, .int .u8 0, .int .u8 0, .int .u8 3] 5))
  have hbw8 := ba hbw7 (.cells #[.int .u8 2, .int .u8 0, .int .u8 0, .int .u8 3] 5)
  rw [World.size_alloc] at hr8
  have hr8 := hr8.mono (show w7.heap.size + 1 + 1 ≤ ((w7.alloc (.cells #[.int .u16 0, .slice A7 0 c7] 39)).alloc (.cells #[.int .u8 2, .int .u8 0, .int .u8 0, .int .u8 3] 5)).heap.size by simp)
  (with_reducible refine (put_s hi8 hr8 (Nat.le_refl 4) (by omega) ⟨512, [0, 0, 0, 8, 2, 0, 0, 3], false, true⟩ 4 rfl rfl).mono ?_)
  rintro e w9 ⟨rfl, hi9, ho9⟩
  have hbw9 := offB hbw8 hg hh ho9
  clear hi7 hbw7 hi8 hbw8 hr8 ho9
  go_wp2_with fail
  (with_reducible refine (next_at hi9 2 3 0 [] ⟨512, [], false, true⟩ (by decide) (by decide) (by decide) rfl (next_2 (by decide) 8 (by decide))).mono ?_)
  rintro e wa ⟨Aa, ca, rfl, _, hia, hoa⟩
  have hbwa := ba (offB hbw9 hg hh hoa) (.cells #[.int .u16 3, .slice Aa 0 ca] 39)
  have hia := hia.call (ba (Below.refl _ _) (.cells #[.int .u16 3, .slice Aa 0 ca] 39))
  have hxa : BxF (wa.alloc (.cells #[.int .u16 3, .slice Aa 0 ca] 39)) wa.heap.size 3 Aa 0 ca := heap_alloc_new wa _
  obtain ⟨ga, hga⟩ : ∃ ga, wa.heap.size = ga := ⟨_, rfl⟩
  have hsb : (wa.alloc (.cells #[.int .u16 3, .slice Aa 0 ca] 39)).heap.size = ga + 1 := by rw [World.size_alloc, hga]
  rw [hga] at hxa
  clear hi9 hbw9 hoa
  go_wp2_with fail
  generalize wa.alloc (.cells #[.int .u16 3, .slice Aa 0 ca] 39) = wb at *
  have hrb : Rd .u8 256 (wb.alloc (.cells #[.int .u8 0, .int .u8 0, .int .u8 0, .int .u8 7] 5)) (wb.heap.size + 1) (some ⟨wb.heap.size, 0, none⟩) 4 [0, 0, 0, 7] := rd_lit8 wb [0, 0, 0, 7] 4 rfl (by decide)
  have hrb := hrb.mono (show wb.heap.size + 1 ≤ (wb.alloc (.cells #[.int .u8 0, .int .u8 0, .int .u8 0, .int .u8 7] 5)).heap.size by simp)
  rw [hsb] at hrb
  have hib := hia.call (ba (Below.refl _ _) (.cells #[.int .u8 0, .int .u8 0, .int .u8 0, .int .u8 7] 5))
  have hxb := hxa.call (ba (Below.refl _ _) (.cells #[.int .u8 0, .int .u8 0, .int .u8 0, .int .u8 7] 5))
  have hbwb := ba hbwa (.cells #[.int .u8 0, .int .u8 0, .int .u8 0, .int .u8 7] 5)
  have hgx : g ≠ ga ∧ h ≠ ga := by
    have h1 := hia.obj
    have h2 := hia.row
    refine ⟨fun e => ?_, fun e => ?_⟩
    · rw [e, hxa] at h1
      simp at h1
    · obtain ⟨R, hR, hl, _⟩ := h2 rfl
      have := hR.row
      rw [e, hxa] at this
      injection this with this
      injection this with this _ _
      have := congrArg Array.size this
      simp [vs_length, hl] at this
  (with_reducible refine (put_s hib hrb (Nat.le_refl 4) (by omega) ⟨512, [0, 0, 0, 7], false, true⟩ 4 rfl rfl).mono ?_)
  rintro e wc ⟨rfl, hic, hoc⟩
  have hbwc := offB hbwb hg hh hoc
  have hxc := BxF.off hxb hoc (fun e => e.elim (fun e => hgx.1 e.symm) (fun e => hgx.2 e.symm))
  clear hia hbwa hib hbwb hrb hoc hxa hxb hsb hga
  go_wp2_with fail
  (with_reducible refine (next_at hic 3 0 0 [] ⟨512, [], true, true⟩ (by decide) (by decide) (by decide) rfl (next_bad (by decide))).mono ?_)
  rintro e wd ⟨Ad, cd, rfl, _, hid, hod⟩
  have hbwd := ba (offB hbwc hg hh hod) (.cells #[.int .u16 0, .slice Ad 0 cd] 39)
  have hid := hid.call (ba (Below.refl _ _) (.cells #[.int .u16 0, .slice Ad 0 cd] 39))
  have hxd := (BxF.off hxc hod (fun e => e.elim (fun e => hgx.1 e.symm) (fun e => hgx.2 e.symm))).call (ba (Below.refl _ _) (.cells #[.int .u16 0, .slice Ad 0 cd] 39))
  have x0 : (wd.alloc (.cells #[.int .u16 0, .slice Ad 0 cd] 39)).cell? ⟨ga, 0, none⟩ = some (.int .u16 3) := hxd.all.1
  clear hic hbwc hod hxc hxd
  go_wp2_with fail
  (with_reducible refine (room_s hid 0 rfl).mono ?_)
  rintro e we ⟨rfl, hbe⟩
  have hie := hid.call hbe
  have hbwe := bn hbwd hbe
  clear hid hbwd x0 hbe
  go_wp2_with fail
  have hrf : Rd .u8 256 (we.alloc (.cells #[.int .u8 1] 5)) (we.heap.size + 1) (some ⟨we.heap.size, 0, none⟩) 1 [1] := rd_lit8 we [1] 1 rfl (by decide)
  have hrf := hrf.mono (show we.heap.size + 1 ≤ (we.alloc (.cells #[.int .u8 1] 5)).heap.size by simp)
  have hif := hie.call (ba (Below.refl _ _) (.cells #[.int .u8 1] 5))
  have hbwf := ba hbwe (.cells #[.int .u8 1] 5)
  (with_reducible refine (put_s hif hrf (Nat.le_refl 1) (by omega) ⟨512, [], true, true⟩ 0 rfl rfl).mono ?_)
  rintro e wg ⟨rfl, hig, hog⟩
  have hbwg := offB hbwf hg hh hog
  clear hie hbwe hrf hif hbwf hog
  go_wp2_with fail
  (with_reducible refine (held_s hig 0 rfl).mono ?_)
  rintro e wh ⟨rfl, rfl⟩
  go_wp2
  go_ret
  exact ⟨rfl, hbwg⟩
end Go.Proofs.Ytdjncacknmejoaa.It
