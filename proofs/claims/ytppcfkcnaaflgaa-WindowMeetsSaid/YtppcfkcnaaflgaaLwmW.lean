/-
  The statement WindowMeets, walked: it answers true. Memory that was there stays. No condition.
-/
import Derived.Test.YtppcfkcnaaflgaaWnv
import Derived.Test.YtppcfkcnaaflgaaWna
namespace Go.Proofs.Ytppcfkcnaaflgaa.windowMeets
set_option maxRecDepth 100000
open Go.RowKit Go.Proofs.Ytppcfkcnaaflgaa.Utf Go.Proofs.Ytppcfkcnaaflgaa.Ob Go.Proofs.Ytppcfkcnaaflgaa.Wn

theorem beg_0 {b : Nat} {W : Wn} (i : Nat) (w : World) (hi : i < 4294967296) (h : Win w b W) : Calls Try.prog 16 #[.pointer (some ⟨b, 0, none⟩), .int .u32 0, .int .u32 (i : Int)] w (Wn.Leaves b (begW W 0 i) (.tuple #[]) w) := begun_any 0 i w (by omega) hi h
set_option maxHeartbeats 8000000 in
theorem walk (one other : Nat) (Ab : Option Addr) (l cb : Nat) (bs : List Nat) (w : World) (ho1 : one < 4294967296) (ho2 : other < 4294967296) (hb : Rd .u8 256 w w.heap.size Ab l bs) (hlc : l ≤ cb) :
    Calls Try.prog 4 #[.int .u32 (one : Int), .int .u32 (other : Int), .slice Ab l cb] w fun e w' => e = .returned (.bool true) ∧ Below w.heap.size w w' := by
  by_cases h2 : 300 < l
  · have d : decide (300 < (l : Int)) = true := by simp; omega
    clear h2 hb
    go_enter Try.func4, Try.ntmps4
    go_wp2_with (first
      | (go_at_call 9; (with_reducible refine (works15_any _).mono ?_); rintro e w3 ⟨rfl, hb3⟩)
      | fail)
    go_ret
    exact ⟨rfl, hb3⟩
  have d : decide (300 < (l : Int)) = false := by simp; omega
  have hl2 : l ≤ 300 := by omega
  have HR := Lib.hid hb
  have HN1 := Lib.hid (fun wx => wnew_any one wx ho1)
  have HN2 := Lib.hid (fun wx => wnew_any other wx ho2)
  obtain ⟨f, hf0, hf1⟩ : ∃ f : Bool → Nat, f false = one ∧ f true = other := ⟨fun k => cond k other one, rfl, rfl⟩
  have F0 := Lib.hid hf0
  have F1 := Lib.hid hf1
  clear h2 hb hf0 hf1
  go_enter Try.func4, Try.ntmps4
  go_wp2_with fail
  with_reducible refine (HN1.out _).mono ?_
  rintro e w1 ⟨x, rfl, x1, hx, b1⟩
  go_wp2_with fail
  with_reducible refine (HN2.out _).mono ?_
  rintro e w2 ⟨y, rfl, y2, hy, b2⟩
  obtain ⟨w3, r, hw3, hr3, b3, ro3⟩ : ∃ w3 r, w2.alloc (.cells #[.pointer (some ⟨x, 0, none⟩), .pointer (some ⟨y, 0, none⟩)] 39) = w3 ∧ w2.heap.size = r ∧ Below w2.heap.size w2 w3 ∧ w3.heap[r]? = some (.cells #[.pointer (some ⟨x, 0, none⟩), .pointer (some ⟨y, 0, none⟩)] 39 (0, 0)) := ⟨_, _, rfl, rfl, ba (Below.refl _ _) _, heap_alloc_new _ _⟩
  have x3 := (x1.call b2).call b3
  have y3 := y2.call b3
  have nxy : ¬ x = y := by have := x1.lt; omega
  have nxr : ¬ x = r := by have := (x1.call b2).lt; omega
  have nyr : ¬ y = r := by have := y2.lt; omega
  have gx : w.heap.size ≤ x := hx
  have gy : w.heap.size ≤ y := by have := b1.size; omega
  have gr : w.heap.size ≤ r := by have := b1.size; have := b2.size; omega
  have B3 := bn (bn b1 b2) b3
  have r30 := cell_of_row w3 r 0 _ _ _ ro3
  have r31 := cell_of_row w3 r 1 _ _ _ ro3
  simp only [List.getElem?_toArray, List.getElem?_cons_zero, List.getElem?_cons_succ] at r30 r31
  clear x1 y2 hx hy b1 b2 b3
  go_wp2_with fail
  with_reducible refine (left_any _ x3).mono ?_
  rintro e w4 ⟨rfl, b4⟩
  have r40 := (b4.cell (p := ⟨r, 0, none⟩) (Array.getElem?_eq_some_iff.1 ro3).1).trans r30
  have r41 := (b4.cell (p := ⟨r, 1, none⟩) (Array.getElem?_eq_some_iff.1 ro3).1).trans r31
  have ro4 := (b4.block r (Array.getElem?_eq_some_iff.1 ro3).1).trans ro3
  have x4 := x3.call b4
  have y4 := y3.call b4
  have B4 := bn B3 b4
  clear x3 y3 r30 r31 ro3 B3 b4
  go_wp2_with fail
  with_reducible refine (left_any _ y4).mono ?_
  rintro e w5 ⟨rfl, b5⟩
  have r50 := (b5.cell (p := ⟨r, 0, none⟩) (Array.getElem?_eq_some_iff.1 ro4).1).trans r40
  have ro5 := (b5.block r (Array.getElem?_eq_some_iff.1 ro4).1).trans ro4
  have x5 := x4.call b5
  have y5 := y4.call b5
  have B5 := bn B4 b5
  clear x4 y4 r40 r41 ro4 B4 b5
  go_wp2_with fail
  with_reducible refine (beg_0 _ _ (by have := y5.ok.inn; have := y5.ok.m2; omega) x5).mono ?_
  rintro e w6 ⟨rfl, x6, o6⟩
  have y6 := y5.off o6 (fun e => nxy e.symm)
  have ro6 := (o6.block r (Array.getElem?_eq_some_iff.1 ro5).1 (fun e => nxr e.symm)).trans ro5
  have r61 := cell_of_row w6 r 1 _ _ _ ro6
  simp only [List.getElem?_toArray, List.getElem?_cons_zero, List.getElem?_cons_succ] at r61
  have B6 := bo B5 o6 (fun i hi e => by omega)
  clear x5 y5 r50 ro5 o6 B5
  go_wp2_with fail
  with_reducible refine (beg_0 _ _ (by have := x6.ok.inn; have := x6.ok.m2; simp only [begW] at this; unfold begW at *; simp_all; omega) y6).mono ?_
  rintro e w7 ⟨rfl, y7, o7⟩
  -- TAIL
  have x7 := x6.off o7 nxy
  have ro7 := (o7.block r (Array.getElem?_eq_some_iff.1 ro6).1 (fun e => nyr e.symm)).trans ro6
  have B7 := bo B6 o7 (fun i hi e => by omega)
  obtain ⟨p, rfl, rfl⟩ : ∃ p : Bool → Nat, p false = x ∧ p true = y := ⟨fun k => cond k y x, rfl, rfl⟩
  obtain ⟨w8, t, hw8, ht8, b8, to8⟩ : ∃ w8 t, w7.alloc (.cells #[.slice none 0 0, .slice none 0 0] 42) = w8 ∧ w7.heap.size = t ∧ Below w7.heap.size w7 w8 ∧ w8.heap[t]? = some (.cells #[.slice none 0 0, .slice none 0 0] 42 (0, 0)) := ⟨_, _, rfl, rfl, ba (Below.refl _ _) _, heap_alloc_new _ _⟩
  have M8 : Mx w8 w.heap.size r t p (fun k => begW (newW (f k)) 0 (newW (f !k)).inn) (fun _ => []) (fun _ => none) (fun _ => 0) := by
    have rl := (Array.getElem?_eq_some_iff.1 ro7).1
    refine ⟨(b8.block r rl).trans ro7, to8, fun k => ?_, fun k => World.ownsRow_nil _ _ _ _, fun k i ⟨a, ha, _⟩ => by simp at ha, ⟨by omega, fun k => ?_, nxy⟩, ⟨gr, by have := B7.size; omega, fun k => by cases k <;> assumption⟩⟩
    · cases k
      · have := x7.call b8
        rw [← F0.out, ← F1.out] at this
        exact this
      · have := y7.call b8
        rw [← F0.out, ← F1.out] at this
        exact this
    · cases k
      · exact ⟨nxr, by have := x7.lt; omega⟩
      · exact ⟨nyr, by have := y7.lt; omega⟩
  have HM8 := Lib.hid M8
  have B8 := Lib.hid (bn B7 b8)
  have P8 := Lib.hid (Pl.begin f)
  have NXY := Lib.hid nxy
  clear x6 y6 x7 y7 ro6 ro7 o7 B6 B7 b8 to8 M8 r61 nxy nxr nyr gx gy gr HN1 HN2 F0 F1 hw3 hr3
  go_wp2_with fail
  clear hw8 ht8
  go_loopw [13] (fun i wx => ∃ (k : Nat) (W : Bool → Wn) (q : Bool → List It) (A : Bool → Option Addr) (c : Bool → Nat), k ≤ l ∧ i = .int .i64 k ∧ Pl k W q ∧ Mx wx w.heap.size r t p W q A c ∧ Below w.heap.size w wx) (fun i _ => l - (intOf i).toNat)
  case atStart => exact ⟨0, _, _, _, _, Nat.zero_le _, rfl, P8.out, HM8.out, B8.out⟩
  case round =>
    obtain ⟨k, W, q, A, c, hk, rfl, hp, hm, hbw⟩ := hrel
    have HP := Lib.hid hp
    have HM := Lib.hid hm
    have HW := Lib.hid hbw
    clear hp hm hbw HM8 B8 P8
    by_cases hlt : k < l
    · have dl : decide (k < l) = true := by simpa using hlt
      obtain ⟨bz, oz, v, rfl, hba, _, hv, hcell⟩ := (HR.out.below HW.out).at_ hlt
      obtain ⟨K, hK1⟩ : ∃ K : Nat, v % 2 = K := ⟨_, rfl⟩
      obtain ⟨S, hS1⟩ : ∃ S : Nat, v / 2 % 4 = S := ⟨_, rfl⟩
      have k1 : (v : Int) % 2 = (K : Int) := by omega
      have k2 : (v : Int).tmod 2 = (K : Int) := by rw [Int.tmod_eq_emod_of_nonneg (by omega)]; exact k1
      have s1 : (v : Int) / 2 % 4 = (S : Int) := by omega
      have s2 : ((v : Int).tdiv 2).tmod 4 = (S : Int) := by rw [Int.tdiv_eq_ediv_of_nonneg (by omega), Int.tmod_eq_emod_of_nonneg (by omega)]; exact s1
      have hK : K = 0 ∨ K = 1 := by omega
      have hS : S = 0 ∨ S = 1 ∨ S = 2 ∨ S = 3 := by omega
      have HK := Lib.hid hK
      have HS := Lib.hid hS
      clear hK hS hK1 hS1
      go_upto_region 13 with fail
      go_cut [83] (fun s83 wx => s83 = .int .i64 (S : Int) ∧ wr = wx)
      case first =>
        go_wp2
        go_meet
        exact ⟨by rw [s1], rfl⟩
      case rest =>
      obtain ⟨rfl, rfl⟩ := hcut
      clear k1 k2 s1 s2 hcell hba hv
      rename ∀ (_ : Act) (_ : World), _ → _ => hK
      refine hK _ _ ?_
      clear hK
      go_cut [14] (fun s14 wx => s14 = .int .i64 (K : Int) ∧ ∃ (W' : Bool → Wn) (q' : Bool → List It) (A' : Bool → Option Addr) (c' : Bool → Nat), Pl (k + 1) W' q' ∧ Mx wx w.heap.size r t p W' q' A' c' ∧ Below w.heap.size w wx)
      case first =>
        have r0 := HM.out.r0
        have r1 := HM.out.r1
        rcases HS.out with rfl | rfl | rfl | rfl <;> rcases HK.out with rfl | rfl
        · by_cases hs : sentB (W false) = true
          · have HS1 := Lib.hid (sent_at (sentW (W false)) _ true wr (HM.out.win false) rfl rfl hs)
            have HPS := Lib.hid (HP.out.send (by omega) false hs)
            clear hs
            go_wp2_with (first
              | (go_at_call 17; (with_reducible refine HS1.out.mono ?_); rintro e w9 ⟨rfl, h9, o9⟩; have MT := HM.out.turned false _ h9 o9 rfl HW.out; have t90 := MT.1.t0; have t91 := MT.1.t1; have HM9 := Lib.hid MT.1; have HB9 := Lib.hid MT.2; have HNEW := Lib.hid (heap_alloc_new w9 (.cells (itv ⟨false, 0, 0, 0⟩).toArray 46)); clear MT h9 o9)
              | (at_builtin; refine wpList_it rfl _ _ rfl (B := w.heap.size) ⟨false, 0, 0, 0⟩ rfl rfl ((HM9.out.call (ba (Below.refl _ _) _)).row true) rfl HNEW.out (by have := HP.out.len true; omega) (by have := HB9.out.size; simp; omega) ?_; intro A2 c2 w10 row10 o10 in10; have hb10 := o10.block t (by have := HM9.out.tlt; simp; omega) (fun e => (HM9.out.far true t e).1 (by simp)); have hb10' := hb10.trans ((ba (Below.refl w9.heap.size w9) (.cells (itv ⟨false, 0, 0, 0⟩).toArray 46)).block t HM9.out.tlt); have u0 := (World.cell?_of_block (a := ⟨t, 0, none⟩) hb10').trans t90; have u1 := (World.cell?_of_block (a := ⟨t, 1, none⟩) hb10').trans t91; have uf := (World.frozen?_of_block (a := ⟨t, 1, none⟩) hb10').trans (HM9.out.tf 1); have PU := Lib.hid (Mx.pushes (HM9.out.call (ba (Below.refl _ _) (.cells (itv ⟨false, 0, 0, 0⟩).toArray 46))) true ⟨false, 0, 0, 0⟩ row10 o10 in10 rfl (bn HB9.out (ba (Below.refl _ _) _))); clear hb10 hb10' row10 o10 in10)
              | fail)
            go_meet
            exact ⟨rfl, _, _, _, _, HPS.out, PU.out.1, PU.out.2⟩
          · have hz : ¬ 0 < (W false).out := fun h => hs (by simpa [sentB] using h)
            have HS1 := Lib.hid (sent_at (W false) 0 false wr (HM.out.win false) (by unfold sentW; rw [if_neg hz]) (by unfold sentN; rw [if_neg hz]) (by simpa using hs))
            clear hs hz
            go_wp2_with (first
              | (go_at_call 17; (with_reducible refine HS1.out.mono ?_); rintro e w9 ⟨rfl, h9, o9⟩; have MT := HM.out.turned false _ h9 o9 rfl HW.out; rw [upd_same] at MT; have MT' := Lib.hid MT; clear MT h9 o9)
              | fail)
            go_meet
            exact ⟨rfl, _, _, _, _, HP.out.up, MT'.out.1, MT'.out.2⟩
        · by_cases hs : sentB (W true) = true
          · have HS1 := Lib.hid (sent_at (sentW (W true)) _ true wr (HM.out.win true) rfl rfl hs)
            have HPS := Lib.hid (HP.out.send (by omega) true hs)
            clear hs
            go_wp2_with (first
              | (go_at_call 17; (with_reducible refine HS1.out.mono ?_); rintro e w9 ⟨rfl, h9, o9⟩; have MT := HM.out.turned true _ h9 o9 rfl HW.out; have t90 := MT.1.t0; have t91 := MT.1.t1; have HM9 := Lib.hid MT.1; have HB9 := Lib.hid MT.2; have HNEW := Lib.hid (heap_alloc_new w9 (.cells (itv ⟨false, 0, 0, 0⟩).toArray 46)); clear MT h9 o9)
              | (at_builtin; refine wpList_it rfl _ _ rfl (B := w.heap.size) ⟨false, 0, 0, 0⟩ rfl rfl ((HM9.out.call (ba (Below.refl _ _) _)).row false) rfl HNEW.out (by have := HP.out.len false; omega) (by have := HB9.out.size; simp; omega) ?_; intro A2 c2 w10 row10 o10 in10; have hb10 := o10.block t (by have := HM9.out.tlt; simp; omega) (fun e => (HM9.out.far false t e).1 (by simp)); have hb10' := hb10.trans ((ba (Below.refl w9.heap.size w9) (.cells (itv ⟨false, 0, 0, 0⟩).toArray 46)).block t HM9.out.tlt); have u0 := (World.cell?_of_block (a := ⟨t, 0, none⟩) hb10').trans t90; have u1 := (World.cell?_of_block (a := ⟨t, 1, none⟩) hb10').trans t91; have uf := (World.frozen?_of_block (a := ⟨t, 0, none⟩) hb10').trans (HM9.out.tf 0); have PU := Lib.hid (Mx.pushes (HM9.out.call (ba (Below.refl _ _) (.cells (itv ⟨false, 0, 0, 0⟩).toArray 46))) false ⟨false, 0, 0, 0⟩ row10 o10 in10 rfl (bn HB9.out (ba (Below.refl _ _) _))); clear hb10 hb10' row10 o10 in10)
              | fail)
            go_meet
            exact ⟨rfl, _, _, _, _, HPS.out, PU.out.1, PU.out.2⟩
          · have hz : ¬ 0 < (W true).out := fun h => hs (by simpa [sentB] using h)
            have HS1 := Lib.hid (sent_at (W true) 0 false wr (HM.out.win true) (by unfold sentW; rw [if_neg hz]) (by unfold sentN; rw [if_neg hz]) (by simpa using hs))
            clear hs hz
            go_wp2_with (first
              | (go_at_call 17; (with_reducible refine HS1.out.mono ?_); rintro e w9 ⟨rfl, h9, o9⟩; have MT := HM.out.turned true _ h9 o9 rfl HW.out; rw [upd_same] at MT; have MT' := Lib.hid MT; clear MT h9 o9)
              | fail)
            go_meet
            exact ⟨rfl, _, _, _, _, HP.out.up, MT'.out.1, MT'.out.2⟩
        · by_cases hs : sentB (W false) = true
          · have HS1 := Lib.hid (sent_at (sentW (W false)) _ true wr (HM.out.win false) rfl rfl hs)
            have HPS := Lib.hid (HP.out.send (by omega) false hs)
            clear hs
            go_wp2_with (first
              | (go_at_call 17; (with_reducible refine HS1.out.mono ?_); rintro e w9 ⟨rfl, h9, o9⟩; have MT := HM.out.turned false _ h9 o9 rfl HW.out; have t90 := MT.1.t0; have t91 := MT.1.t1; have HM9 := Lib.hid MT.1; have HB9 := Lib.hid MT.2; have HNEW := Lib.hid (heap_alloc_new w9 (.cells (itv ⟨false, 0, 0, 0⟩).toArray 46)); clear MT h9 o9)
              | (at_builtin; refine wpList_it rfl _ _ rfl (B := w.heap.size) ⟨false, 0, 0, 0⟩ rfl rfl ((HM9.out.call (ba (Below.refl _ _) _)).row true) rfl HNEW.out (by have := HP.out.len true; omega) (by have := HB9.out.size; simp; omega) ?_; intro A2 c2 w10 row10 o10 in10; have hb10 := o10.block t (by have := HM9.out.tlt; simp; omega) (fun e => (HM9.out.far true t e).1 (by simp)); have hb10' := hb10.trans ((ba (Below.refl w9.heap.size w9) (.cells (itv ⟨false, 0, 0, 0⟩).toArray 46)).block t HM9.out.tlt); have u0 := (World.cell?_of_block (a := ⟨t, 0, none⟩) hb10').trans t90; have u1 := (World.cell?_of_block (a := ⟨t, 1, none⟩) hb10').trans t91; have uf := (World.frozen?_of_block (a := ⟨t, 1, none⟩) hb10').trans (HM9.out.tf 1); have PU := Lib.hid (Mx.pushes (HM9.out.call (ba (Below.refl _ _) (.cells (itv ⟨false, 0, 0, 0⟩).toArray 46))) true ⟨false, 0, 0, 0⟩ row10 o10 in10 rfl (bn HB9.out (ba (Below.refl _ _) _))); clear hb10 hb10' row10 o10 in10)
              | fail)
            go_meet
            exact ⟨rfl, _, _, _, _, HPS.out, PU.out.1, PU.out.2⟩
          · have hz : ¬ 0 < (W false).out := fun h => hs (by simpa [sentB] using h)
            have HS1 := Lib.hid (sent_at (W false) 0 false wr (HM.out.win false) (by unfold sentW; rw [if_neg hz]) (by unfold sentN; rw [if_neg hz]) (by simpa using hs))
            clear hs hz
            go_wp2_with (first
              | (go_at_call 17; (with_reducible refine HS1.out.mono ?_); rintro e w9 ⟨rfl, h9, o9⟩; have MT := HM.out.turned false _ h9 o9 rfl HW.out; rw [upd_same] at MT; have MT' := Lib.hid MT; clear MT h9 o9)
              | fail)
            go_meet
            exact ⟨rfl, _, _, _, _, HP.out.up, MT'.out.1, MT'.out.2⟩
        · by_cases hs : sentB (W true) = true
          · have HS1 := Lib.hid (sent_at (sentW (W true)) _ true wr (HM.out.win true) rfl rfl hs)
            have HPS := Lib.hid (HP.out.send (by omega) true hs)
            clear hs
            go_wp2_with (first
              | (go_at_call 17; (with_reducible refine HS1.out.mono ?_); rintro e w9 ⟨rfl, h9, o9⟩; have MT := HM.out.turned true _ h9 o9 rfl HW.out; have t90 := MT.1.t0; have t91 := MT.1.t1; have HM9 := Lib.hid MT.1; have HB9 := Lib.hid MT.2; have HNEW := Lib.hid (heap_alloc_new w9 (.cells (itv ⟨false, 0, 0, 0⟩).toArray 46)); clear MT h9 o9)
              | (at_builtin; refine wpList_it rfl _ _ rfl (B := w.heap.size) ⟨false, 0, 0, 0⟩ rfl rfl ((HM9.out.call (ba (Below.refl _ _) _)).row false) rfl HNEW.out (by have := HP.out.len false; omega) (by have := HB9.out.size; simp; omega) ?_; intro A2 c2 w10 row10 o10 in10; have hb10 := o10.block t (by have := HM9.out.tlt; simp; omega) (fun e => (HM9.out.far false t e).1 (by simp)); have hb10' := hb10.trans ((ba (Below.refl w9.heap.size w9) (.cells (itv ⟨false, 0, 0, 0⟩).toArray 46)).block t HM9.out.tlt); have u0 := (World.cell?_of_block (a := ⟨t, 0, none⟩) hb10').trans t90; have u1 := (World.cell?_of_block (a := ⟨t, 1, none⟩) hb10').trans t91; have uf := (World.frozen?_of_block (a := ⟨t, 0, none⟩) hb10').trans (HM9.out.tf 0); have PU := Lib.hid (Mx.pushes (HM9.out.call (ba (Below.refl _ _) (.cells (itv ⟨false, 0, 0, 0⟩).toArray 46))) false ⟨false, 0, 0, 0⟩ row10 o10 in10 rfl (bn HB9.out (ba (Below.refl _ _) _))); clear hb10 hb10' row10 o10 in10)
              | fail)
            go_meet
            exact ⟨rfl, _, _, _, _, HPS.out, PU.out.1, PU.out.2⟩
          · have hz : ¬ 0 < (W true).out := fun h => hs (by simpa [sentB] using h)
            have HS1 := Lib.hid (sent_at (W true) 0 false wr (HM.out.win true) (by unfold sentW; rw [if_neg hz]) (by unfold sentN; rw [if_neg hz]) (by simpa using hs))
            clear hs hz
            go_wp2_with (first
              | (go_at_call 17; (with_reducible refine HS1.out.mono ?_); rintro e w9 ⟨rfl, h9, o9⟩; have MT := HM.out.turned true _ h9 o9 rfl HW.out; rw [upd_same] at MT; have MT' := Lib.hid MT; clear MT h9 o9)
              | fail)
            go_meet
            exact ⟨rfl, _, _, _, _, HP.out.up, MT'.out.1, MT'.out.2⟩
        · have HS1 := Lib.hid (grant_any wr (HM.out.win false))
          have HPS := Lib.hid (HP.out.flow false)
          go_wp2_with (first
            | (go_at_call 18; (with_reducible refine HS1.out.mono ?_); rintro e w9 ⟨rfl, h9, o9⟩; have MT := HM.out.turned false _ h9 o9 rfl HW.out; have t90 := MT.1.t0; have t91 := MT.1.t1; have HM9 := Lib.hid MT.1; have HB9 := Lib.hid MT.2; have HNEW := Lib.hid (heap_alloc_new w9 (.cells (itv ⟨true, (W false).ni, (W false).most, (W false).no⟩).toArray 46)); clear MT h9 o9)
            | (at_builtin; refine wpList_it rfl _ _ rfl (B := w.heap.size) ⟨true, (W false).ni, (W false).most, (W false).no⟩ rfl rfl ((HM9.out.call (ba (Below.refl _ _) _)).row true) rfl HNEW.out (by have := HP.out.len true; omega) (by have := HB9.out.size; simp; omega) ?_; intro A2 c2 w10 row10 o10 in10; have hb10 := o10.block t (by have := HM9.out.tlt; simp; omega) (fun e => (HM9.out.far true t e).1 (by simp)); have hb10' := hb10.trans ((ba (Below.refl w9.heap.size w9) (.cells (itv ⟨true, (W false).ni, (W false).most, (W false).no⟩).toArray 46)).block t HM9.out.tlt); have u0 := (World.cell?_of_block (a := ⟨t, 0, none⟩) hb10').trans t90; have u1 := (World.cell?_of_block (a := ⟨t, 1, none⟩) hb10').trans t91; have uf := (World.frozen?_of_block (a := ⟨t, 1, none⟩) hb10').trans (HM9.out.tf 1); have PU := Lib.hid (Mx.pushes (HM9.out.call (ba (Below.refl _ _) (.cells (itv ⟨true, (W false).ni, (W false).most, (W false).no⟩).toArray 46))) true ⟨true, (W false).ni, (W false).most, (W false).no⟩ row10 o10 in10 rfl (bn HB9.out (ba (Below.refl _ _) _))); clear hb10 hb10' row10 o10 in10)
            | fail)
          go_meet
          exact ⟨rfl, _, _, _, _, HPS.out, PU.out.1, PU.out.2⟩
        · have HS1 := Lib.hid (grant_any wr (HM.out.win true))
          have HPS := Lib.hid (HP.out.flow true)
          go_wp2_with (first
            | (go_at_call 18; (with_reducible refine HS1.out.mono ?_); rintro e w9 ⟨rfl, h9, o9⟩; have MT := HM.out.turned true _ h9 o9 rfl HW.out; have t90 := MT.1.t0; have t91 := MT.1.t1; have HM9 := Lib.hid MT.1; have HB9 := Lib.hid MT.2; have HNEW := Lib.hid (heap_alloc_new w9 (.cells (itv ⟨true, (W true).ni, (W true).most, (W true).no⟩).toArray 46)); clear MT h9 o9)
            | (at_builtin; refine wpList_it rfl _ _ rfl (B := w.heap.size) ⟨true, (W true).ni, (W true).most, (W true).no⟩ rfl rfl ((HM9.out.call (ba (Below.refl _ _) _)).row false) rfl HNEW.out (by have := HP.out.len false; omega) (by have := HB9.out.size; simp; omega) ?_; intro A2 c2 w10 row10 o10 in10; have hb10 := o10.block t (by have := HM9.out.tlt; simp; omega) (fun e => (HM9.out.far false t e).1 (by simp)); have hb10' := hb10.trans ((ba (Below.refl w9.heap.size w9) (.cells (itv ⟨true, (W true).ni, (W true).most, (W true).no⟩).toArray 46)).block t HM9.out.tlt); have u0 := (World.cell?_of_block (a := ⟨t, 0, none⟩) hb10').trans t90; have u1 := (World.cell?_of_block (a := ⟨t, 1, none⟩) hb10').trans t91; have uf := (World.frozen?_of_block (a := ⟨t, 0, none⟩) hb10').trans (HM9.out.tf 0); have PU := Lib.hid (Mx.pushes (HM9.out.call (ba (Below.refl _ _) (.cells (itv ⟨true, (W true).ni, (W true).most, (W true).no⟩).toArray 46))) false ⟨true, (W true).ni, (W true).most, (W true).no⟩ row10 o10 in10 rfl (bn HB9.out (ba (Below.refl _ _) _))); clear hb10 hb10' row10 o10 in10)
            | fail)
          go_meet
          exact ⟨rfl, _, _, _, _, HPS.out, PU.out.1, PU.out.2⟩
        · rcases hq : q false with _ | ⟨y, Q⟩
          · have HC : Hid (∀ wx, Below wr.heap.size wr wx → Calls Try.prog 19 #[.pointer (some ⟨p false, 0, none⟩), .pointer (some ⟨t, 0, none⟩)] wx fun e w' => e = .returned (.bool true) ∧ wx = w') := Lib.hid (fun wx hx => come_no (HM.out.call hx) false hq)
            clear hq
            go_wp2_with fail
            go_region_with (first
              | (go_at_call 19; (with_reducible refine (HC.out _ (by exact (Below.refl _ _).drew)).mono ?_); rintro e w9 ⟨rfl, rfl⟩)
              | fail)
            all_goals
              go_wp2
              go_meet
              exact ⟨rfl, _, _, _, _, HP.out.up, HM.out.call (Below.refl _ _).drew, HW.out.drew⟩
          · have HC : Hid (∀ wx, Below wr.heap.size wr wx → Calls Try.prog 19 #[.pointer (some ⟨p false, 0, none⟩), .pointer (some ⟨t, 0, none⟩)] wx fun e w' => e = .returned (.bool true) ∧ GivesCome (p false) t 0 (W false) y Q wx (.returned (.bool true)) w') := Lib.hid (fun wx hx => come_yes (HM.out.call hx) HP.out (by omega) false y Q hq)
            have HPS := Lib.hid (HP.out.come (by omega) false hq).up
            clear hq
            go_wp2_with fail
            go_region_with (first
              | (go_at_call 19; (with_reducible refine (HC.out _ (by exact (Below.refl _ _).drew)).mono ?_); rintro e w9 ⟨rfl, g9⟩; have GC := Lib.hid (Mx.comes (HM.out.call (Below.refl _ _).drew) false y Q g9 rfl HW.out.drew); clear g9)
              | fail)
            all_goals
              go_wp2
              go_meet
              obtain ⟨A2, c2, m, b⟩ := GC.out
              exact ⟨rfl, _, _, _, _, HPS.out, m, b⟩
        · rcases hq : q true with _ | ⟨y, Q⟩
          · have HC : Hid (∀ wx, Below wr.heap.size wr wx → Calls Try.prog 19 #[.pointer (some ⟨p true, 0, none⟩), .pointer (some ⟨t, 1, none⟩)] wx fun e w' => e = .returned (.bool true) ∧ wx = w') := Lib.hid (fun wx hx => come_no (HM.out.call hx) true hq)
            clear hq
            go_wp2_with fail
            go_region_with (first
              | (go_at_call 19; (with_reducible refine (HC.out _ (by exact (Below.refl _ _).drew)).mono ?_); rintro e w9 ⟨rfl, rfl⟩)
              | fail)
            all_goals
              go_wp2
              go_meet
              exact ⟨rfl, _, _, _, _, HP.out.up, HM.out.call (Below.refl _ _).drew, HW.out.drew⟩
          · have HC : Hid (∀ wx, Below wr.heap.size wr wx → Calls Try.prog 19 #[.pointer (some ⟨p true, 0, none⟩), .pointer (some ⟨t, 1, none⟩)] wx fun e w' => e = .returned (.bool true) ∧ GivesCome (p true) t 1 (W true) y Q wx (.returned (.bool true)) w') := Lib.hid (fun wx hx => come_yes (HM.out.call hx) HP.out (by omega) true y Q hq)
            have HPS := Lib.hid (HP.out.come (by omega) true hq).up
            clear hq
            go_wp2_with fail
            go_region_with (first
              | (go_at_call 19; (with_reducible refine (HC.out _ (by exact (Below.refl _ _).drew)).mono ?_); rintro e w9 ⟨rfl, g9⟩; have GC := Lib.hid (Mx.comes (HM.out.call (Below.refl _ _).drew) true y Q g9 rfl HW.out.drew); clear g9)
              | fail)
            all_goals
              go_wp2
              go_meet
              obtain ⟨A2, c2, m, b⟩ := GC.out
              exact ⟨rfl, _, _, _, _, HPS.out, m, b⟩
      case rest =>
        obtain ⟨rfl, W1, q1, A1, c1, hp1, hm1, hb1⟩ := hcut
        have HP1 := Lib.hid hp1
        have HM1 := Lib.hid hm1
        have HB1 := Lib.hid hb1
        clear hp1 hm1 hb1 HP HM HW
        rename ∀ (_ : Act) (_ : World), _ → _ => hK
        refine hK _ _ ?_
        clear hK
        go_wp2_with fail
        go_loopw [20] (fun s20 wx => ∃ j : Nat, j ≤ 2 ∧ s20 = .int .i64 (j : Int) ∧ Mx wx w.heap.size r t p W1 q1 A1 c1 ∧ Below w.heap.size w wx) (fun s _ => 2 - (intOf s).toNat)
        case atStart => exact ⟨0, by omega, rfl, HM1.out, HB1.out⟩
        case round =>
          obtain ⟨j, hj, rfl, hm2, hb2⟩ := hrel
          have HM2 := Lib.hid hm2
          have HB2 := Lib.hid hb2
          clear hm2 hb2 HM1 HB1
          by_cases hj2 : j < 2
          · have hj3 : j = 0 ∨ j = 1 := by omega
            rcases hj3 with rfl | rfl
            · have r0 := HM2.out.r0
              have r1 := HM2.out.r1
              have hfit : (W1 false).out + und (q1 true) ≤ (W1 true).inn := HP1.out.fits false
              have ho := (HP1.out.ok false).out
              have hi : (W1 true).inn ≤ 256 := Nat.le_trans (HP1.out.ok true).inn (HP1.out.ok true).m2
              have FIT := Lib.hid (And.intro hfit (And.intro ho hi))
              clear hfit ho hi
              go_wp2_with fail
              with_reducible refine (left_any _ (HM2.out.win false)).mono ?_
              rintro e w3 ⟨rfl, b3⟩
              have M3 := Lib.hid (HM2.out.call b3)
              have B3 := Lib.hid (bn HB2.out b3)
              clear r0 r1 b3
              have r0 := M3.out.r0
              have r1 := M3.out.r1
              go_wp2_with fail
              with_reducible refine (left_any _ (M3.out.win true)).mono ?_
              rintro e w4 ⟨rfl, b4⟩
              have M4 := Lib.hid (M3.out.call b4)
              have B4 := Lib.hid (bn B3.out b4)
              clear r0 r1 b4
              go_wp2_with fail
              go_loopw [25, 26] (fun u m wx => ∃ mm : Nat, mm ≤ (q1 true).length ∧ u = .int .i64 ((und ((q1 true).take mm) : Nat) : Int) ∧ m = .int .i64 (mm : Int) ∧ w4 = wx) (fun _ m _ => (q1 true).length - (intOf m).toNat)
              case atStart => exact ⟨0, Nat.zero_le _, rfl, rfl, rfl⟩
              case round =>
                obtain ⟨mm, hmm, rfl, rfl, rfl⟩ := hrel
                have tt := M4.out.t1
                have hul := und_le ((q1 true).take mm)
                have hun := HP1.out.len true
                by_cases hm : mm < (q1 true).length
                · have dm : decide (mm < (q1 true).length) = true := by simpa using hm
                  obtain ⟨g, hA, hg⟩ := M4.out.cellf true hm
                  rw [hA] at tt
                  have hut := und_take (q1 true) mm hm
                  obtain ⟨U, hU⟩ : ∃ U, und ((q1 true).take mm) = U := ⟨_, rfl⟩
                  rw [hU] at hut hul ⊢
                  have HUT := Lib.hid hut
                  have hul2 : U ≤ 301 := by have := List.length_take_le mm (q1 true); omega
                  clear hut hul hU
                  cases hfl : ((q1 true)[mm]'hm).flow
                  · rw [hfl] at hg HUT
                    have HUT2 : Hid (und ((q1 true).take (mm + 1)) = U + 1) := Lib.hid (by rw [HUT.out]; rfl)
                    clear hfl HUT
                    go_wp2
                    go_roundw
                    case rel => exact ⟨mm + 1, by omega, by rw [HUT2.out]; go_num, by go_num, trivial⟩
                    case measure => simp [intOf]; omega
                  · rw [hfl] at hg HUT
                    have HUT2 : Hid (und ((q1 true).take (mm + 1)) = U) := Lib.hid (by rw [HUT.out]; rfl)
                    clear hfl HUT
                    go_wp2
                    go_roundw
                    case rel => exact ⟨mm + 1, by omega, by rw [HUT2.out], by go_num, trivial⟩
                    case measure => simp [intOf]; omega
                · have dm : decide (mm < (q1 true).length) = false := by simpa using hm
                  have e : (q1 true).take mm = q1 true := List.take_of_length_le (by omega)
                  rw [e] at hul ⊢
                  obtain ⟨U, hU⟩ : ∃ U, und (q1 true) = U := ⟨_, rfl⟩
                  have hfit : (W1 false).out + U ≤ (W1 true).inn := by rw [← hU]; exact FIT.out.1
                  have ho := FIT.out.2.1
                  have hi := FIT.out.2.2
                  rw [hU] at hul ⊢
                  have dfit : decide (((W1 true).inn : Int) < ((W1 false).out : Int) + (U : Int)) = false := by simp; omega
                  clear e hU
                  go_wp2
                  go_roundw
                  case rel => exact ⟨1, by omega, rfl, M4.out, B4.out⟩
                  case measure => simp [intOf]
            · have r0 := HM2.out.r0
              have r1 := HM2.out.r1
              have hfit : (W1 true).out + und (q1 false) ≤ (W1 false).inn := HP1.out.fits true
              have ho := (HP1.out.ok true).out
              have hi : (W1 false).inn ≤ 256 := Nat.le_trans (HP1.out.ok false).inn (HP1.out.ok false).m2
              have FIT := Lib.hid (And.intro hfit (And.intro ho hi))
              clear hfit ho hi
              go_wp2_with fail
              with_reducible refine (left_any _ (HM2.out.win true)).mono ?_
              rintro e w3 ⟨rfl, b3⟩
              have M3 := Lib.hid (HM2.out.call b3)
              have B3 := Lib.hid (bn HB2.out b3)
              clear r0 r1 b3
              have r0 := M3.out.r0
              have r1 := M3.out.r1
              go_wp2_with fail
              with_reducible refine (left_any _ (M3.out.win false)).mono ?_
              rintro e w4 ⟨rfl, b4⟩
              have M4 := Lib.hid (M3.out.call b4)
              have B4 := Lib.hid (bn B3.out b4)
              clear r0 r1 b4
              go_wp2_with fail
              go_loopw [25, 26] (fun u m wx => ∃ mm : Nat, mm ≤ (q1 false).length ∧ u = .int .i64 ((und ((q1 false).take mm) : Nat) : Int) ∧ m = .int .i64 (mm : Int) ∧ w4 = wx) (fun _ m _ => (q1 false).length - (intOf m).toNat)
              case atStart => exact ⟨0, Nat.zero_le _, rfl, rfl, rfl⟩
              case round =>
                obtain ⟨mm, hmm, rfl, rfl, rfl⟩ := hrel
                have tt := M4.out.t0
                have hul := und_le ((q1 false).take mm)
                have hun := HP1.out.len false
                by_cases hm : mm < (q1 false).length
                · have dm : decide (mm < (q1 false).length) = true := by simpa using hm
                  obtain ⟨g, hA, hg⟩ := M4.out.cellf false hm
                  rw [hA] at tt
                  have hut := und_take (q1 false) mm hm
                  obtain ⟨U, hU⟩ : ∃ U, und ((q1 false).take mm) = U := ⟨_, rfl⟩
                  rw [hU] at hut hul ⊢
                  have HUT := Lib.hid hut
                  have hul2 : U ≤ 301 := by have := List.length_take_le mm (q1 false); omega
                  clear hut hul hU
                  cases hfl : ((q1 false)[mm]'hm).flow
                  · rw [hfl] at hg HUT
                    have HUT2 : Hid (und ((q1 false).take (mm + 1)) = U + 1) := Lib.hid (by rw [HUT.out]; rfl)
                    clear hfl HUT
                    go_wp2
                    go_roundw
                    case rel => exact ⟨mm + 1, by omega, by rw [HUT2.out]; go_num, by go_num, trivial⟩
                    case measure => simp [intOf]; omega
                  · rw [hfl] at hg HUT
                    have HUT2 : Hid (und ((q1 false).take (mm + 1)) = U) := Lib.hid (by rw [HUT.out]; rfl)
                    clear hfl HUT
                    go_wp2
                    go_roundw
                    case rel => exact ⟨mm + 1, by omega, by rw [HUT2.out], by go_num, trivial⟩
                    case measure => simp [intOf]; omega
                · have dm : decide (mm < (q1 false).length) = false := by simpa using hm
                  have e : (q1 false).take mm = q1 false := List.take_of_length_le (by omega)
                  rw [e] at hul ⊢
                  obtain ⟨U, hU⟩ : ∃ U, und (q1 false) = U := ⟨_, rfl⟩
                  have hfit : (W1 true).out + U ≤ (W1 false).inn := by rw [← hU]; exact FIT.out.1
                  have ho := FIT.out.2.1
                  have hi := FIT.out.2.2
                  rw [hU] at hul ⊢
                  have dfit : decide (((W1 false).inn : Int) < ((W1 true).out : Int) + (U : Int)) = false := by simp; omega
                  clear e hU
                  go_wp2
                  go_roundw
                  case rel => exact ⟨2, by omega, rfl, M4.out, B4.out⟩
                  case measure => simp [intOf]
          · have hj3 : j = 2 := by omega
            subst hj3
            go_wp2
            go_roundw
            case rel => exact ⟨k + 1, W1, q1, A1, c1, by omega, by go_num, HP1.out, HM2.out, HB2.out⟩
            case measure => simp [intOf]; omega
    · have dl : decide (k < l) = false := by simpa using hlt
      obtain rfl : k = l := by omega
      clear hlt hk dl
      go_wp2_with fail
      go_loopw [27] (fun s wx => ∃ (j : Nat) (W2 : Bool → Wn) (q2 : Bool → List It) (A2 : Bool → Option Addr) (c2 : Bool → Nat), j ≤ 2 ∧ s = .int .i64 (j : Int) ∧ Pl k W2 q2 ∧ Mx wx w.heap.size r t p W2 q2 A2 c2 ∧ Below w.heap.size w wx ∧ (1 ≤ j → q2 false = []) ∧ (2 ≤ j → q2 true = [])) (fun s _ => 2 - (intOf s).toNat)
      case atStart => exact ⟨0, W, q, A, c, by omega, rfl, HP.out, HM.out, HW.out, fun h => by omega, fun h => by omega⟩
      case round =>
        obtain ⟨j, W2, q2, A2, c2, hj, rfl, hp2, hm2, hb2, he0, he1⟩ := hrel
        have HP2 := Lib.hid hp2
        have HM2 := Lib.hid hm2
        have HB2 := Lib.hid hb2
        have HE := Lib.hid (And.intro he0 he1)
        clear hp2 hm2 hb2 he0 he1 HP HM HW
        by_cases hj2 : j < 2
        · have hj3 : j = 0 ∨ j = 1 := by omega
          rcases hj3 with rfl | rfl
          · go_wp2_with fail
            go_loopg [] (q2 false).length (fun gh wx => ∃ (W3 : Bool → Wn) (q3 : Bool → List It) (A3 : Bool → Option Addr) (c3 : Bool → Nat), (q3 false).length = gh ∧ Pl k W3 q3 ∧ Mx wx w.heap.size r t p W3 q3 A3 c3 ∧ Below w.heap.size w wx ∧ True)
            case atStart => exact ⟨W2, q2, A2, c2, rfl, HP2.out, HM2.out, HB2.out, trivial⟩
            case round =>
              obtain ⟨W3, q3, A3, c3, hlen, hp3, hm3, hb3, hz⟩ := hrel
              have HP3 := Lib.hid hp3
              have HM3 := Lib.hid hm3
              have HB3 := Lib.hid hb3
              have HZ := Lib.hid hz
              have r0 := hm3.r0
              have r1 := hm3.r1
              have tt := hm3.t0
              clear hp3 hm3 hb3 hz HP2 HM2 HB2
              rcases hq : q3 false with _ | ⟨y, Q⟩
              · have hl0 : (q3 false).length = 0 := by rw [hq]; rfl
                rw [hl0] at tt
                have HQ := Lib.hid hq
                clear hq hl0 hlen
                go_wp2
                go_roundw
                case rel =>
                  have hq := HQ.out
                  exact ⟨1, W3, q3, A3, c3, by omega, rfl, HP3.out, HM3.out, HB3.out, fun _ => hq, fun h => by omega⟩
                case measure => simp [intOf]
              · have hl1 : (q3 false).length = Q.length + 1 := by rw [hq]; rfl
                rw [hl1] at tt
                have HLEN : Hid (Q.length < gk) := Lib.hid (by omega)
                have dq : decide ((0 : Int) < ((Q.length + 1 : Nat) : Int)) = true := by simp
                have dq2 : 0 < Q.length + 1 := by omega
                obtain ⟨nq, hnq⟩ : ∃ nq, Q.length + 1 = nq := ⟨_, rfl⟩
                rw [hnq] at tt dq dq2
                have HC : Hid (∀ wx, Below wr.heap.size wr wx → Calls Try.prog 19 #[.pointer (some ⟨p false, 0, none⟩), .pointer (some ⟨t, 0, none⟩)] wx fun e w' => e = .returned (.bool true) ∧ GivesCome (p false) t 0 (W3 false) y Q wx (.returned (.bool true)) w') := Lib.hid (fun wx hx => come_yes (HM3.out.call hx) HP3.out (by omega) false y Q hq)
                have HPS := Lib.hid (HP3.out.come (by omega) false hq)
                clear hq hl1 hlen hnq
                go_wp2_with fail
                go_region_with (first
                  | (go_at_call 19; (with_reducible refine (HC.out _ (by exact (Below.refl _ _).drew)).mono ?_); rintro e w9 ⟨rfl, g9⟩; have GC := Lib.hid (Mx.comes (HM3.out.call (Below.refl _ _).drew) false y Q g9 rfl HB3.out.drew); clear g9)
                  | fail)
                all_goals
                  go_wp2
                  go_roundg Q.length
                  case measure => exact HLEN.out
                  case rel =>
                    obtain ⟨A4, c4, m, b⟩ := GC.out
                    exact ⟨_, _, _, _, by rw [upd_at], HPS.out, m, b, trivial⟩
          · go_wp2_with fail
            go_loopg [] (q2 true).length (fun gh wx => ∃ (W3 : Bool → Wn) (q3 : Bool → List It) (A3 : Bool → Option Addr) (c3 : Bool → Nat), (q3 true).length = gh ∧ Pl k W3 q3 ∧ Mx wx w.heap.size r t p W3 q3 A3 c3 ∧ Below w.heap.size w wx ∧ q3 false = [])
            case atStart => exact ⟨W2, q2, A2, c2, rfl, HP2.out, HM2.out, HB2.out, HE.out.1 (by omega)⟩
            case round =>
              obtain ⟨W3, q3, A3, c3, hlen, hp3, hm3, hb3, hz⟩ := hrel
              have HP3 := Lib.hid hp3
              have HM3 := Lib.hid hm3
              have HB3 := Lib.hid hb3
              have HZ := Lib.hid hz
              have r0 := hm3.r0
              have r1 := hm3.r1
              have tt := hm3.t1
              clear hp3 hm3 hb3 hz HP2 HM2 HB2
              rcases hq : q3 true with _ | ⟨y, Q⟩
              · have hl0 : (q3 true).length = 0 := by rw [hq]; rfl
                rw [hl0] at tt
                have HQ := Lib.hid hq
                clear hq hl0 hlen
                go_wp2
                go_roundw
                case rel =>
                  have hq := HQ.out
                  exact ⟨2, W3, q3, A3, c3, by omega, rfl, HP3.out, HM3.out, HB3.out, fun _ => HZ.out, fun _ => hq⟩
                case measure => simp [intOf]
              · have hl1 : (q3 true).length = Q.length + 1 := by rw [hq]; rfl
                rw [hl1] at tt
                have HLEN : Hid (Q.length < gk) := Lib.hid (by omega)
                have dq : decide ((0 : Int) < ((Q.length + 1 : Nat) : Int)) = true := by simp
                have dq2 : 0 < Q.length + 1 := by omega
                obtain ⟨nq, hnq⟩ : ∃ nq, Q.length + 1 = nq := ⟨_, rfl⟩
                rw [hnq] at tt dq dq2
                have HC : Hid (∀ wx, Below wr.heap.size wr wx → Calls Try.prog 19 #[.pointer (some ⟨p true, 0, none⟩), .pointer (some ⟨t, 1, none⟩)] wx fun e w' => e = .returned (.bool true) ∧ GivesCome (p true) t 1 (W3 true) y Q wx (.returned (.bool true)) w') := Lib.hid (fun wx hx => come_yes (HM3.out.call hx) HP3.out (by omega) true y Q hq)
                have HPS := Lib.hid (HP3.out.come (by omega) true hq)
                clear hq hl1 hlen hnq
                go_wp2_with fail
                go_region_with (first
                  | (go_at_call 19; (with_reducible refine (HC.out _ (by exact (Below.refl _ _).drew)).mono ?_); rintro e w9 ⟨rfl, g9⟩; have GC := Lib.hid (Mx.comes (HM3.out.call (Below.refl _ _).drew) true y Q g9 rfl HB3.out.drew); clear g9)
                  | fail)
                all_goals
                  go_wp2
                  go_roundg Q.length
                  case measure => exact HLEN.out
                  case rel =>
                    obtain ⟨A4, c4, m, b⟩ := GC.out
                    exact ⟨_, _, _, _, by rw [upd_at], HPS.out, m, b, HZ.out⟩
        · have hj3 : j = 2 := by omega
          subst hj3
          have hqe : q2 = fun _ => [] := by
            funext b
            cases b
            · exact HE.out.1 (by omega)
            · exact HE.out.2 (by omega)
          subst hqe
          clear HE hj hj2
          go_wp2_with fail
          simp only [Int.cast_ofNat_Int]
          go_loopw [28] (fun s wx => ∃ (j : Nat) (W3 : Bool → Wn), j ≤ 2 ∧ s = .int .i64 (j : Int) ∧ Pl (k + j) W3 (fun _ => []) ∧ Mx wx w.heap.size r t p W3 (fun _ => []) A2 c2 ∧ Below w.heap.size w wx) (fun s _ => 2 - (intOf s).toNat)
          case atStart => exact ⟨0, W2, by omega, rfl, HP2.out, HM2.out, HB2.out⟩
          case round =>
            obtain ⟨j, W3, hj, rfl, hp3, hm3, hb3⟩ := hrel
            have HP3 := Lib.hid hp3
            have HM3 := Lib.hid hm3
            have HB3 := Lib.hid hb3
            clear hp3 hm3 hb3 HP2 HM2 HB2
            by_cases hj2 : j < 2
            · have hj3 : j = 0 ∨ j = 1 := by omega
              rcases hj3 with rfl | rfl
              · have r0 := HM3.out.r0
                have r1 := HM3.out.r1
                have okk := HP3.out.ok false
                have okn := HP3.out.ok true
                have hlast := HP3.out.last (by omega) false rfl
                obtain ⟨m, hm⟩ : ∃ m, (W3 false).most = m := ⟨_, rfl⟩
                obtain ⟨ni, hni⟩ : ∃ m, (W3 false).ni = m := ⟨_, rfl⟩
                obtain ⟨no, hno⟩ : ∃ m, (W3 false).no = m := ⟨_, rfl⟩
                have hm1 : 1 ≤ m ∧ m ≤ 256 := ⟨hm ▸ okk.m1, hm ▸ okk.m2⟩
                have hni1 : ni < 4294967296 := hni ▸ okk.ni
                have hno1 : no < 4294967296 := hno ▸ okk.no
                have hwr : wrap64 (ni : Int) = (ni : Int) := by unfold wrap64; omega
                have HS := HP3.out.settle (by omega) false
                have HG := grant_any wr (HM3.out.win false)
                rw [hm, hni, hno] at HG HS hlast
                have HG' := Lib.hid HG
                have HSE := Lib.hid HS
                have HLA : Hid ((toldW (W3 true) (ni : Int) m no).out = m) := Lib.hid hlast
                have HIN : Hid (((grantW (W3 false)).inn : Int) = (m : Int)) := Lib.hid (by show ((W3 false).most : Int) = (m : Int); rw [hm])
                clear HG HS hlast okk okn hm hni hno
                go_wp2_with fail
                with_reducible refine HG'.out.mono ?_
                rintro e w4 ⟨rfl, h4, o4⟩
                have M4 := Lib.hid (HM3.out.turned false _ h4 o4 rfl HB3.out)
                have N4 : Hid (Win w4 (p true) (W3 true)) := Lib.hid (M4.out.1.win true)
                clear r0 r1 h4 o4
                have r0 := M4.out.1.r0
                have r1 := M4.out.1.r1
                go_wp2_with fail
                with_reducible refine (told_any (ni : Int) m no _ (by omega) hno1 N4.out).mono ?_
                rintro e w5 ⟨rfl, h5, o5⟩
                have M5 := Lib.hid (M4.out.1.turned true _ h5 o5 rfl M4.out.2)
                have N5 : Hid (Win w5 (p false) (grantW (W3 false))) := Lib.hid (M5.out.1.win false)
                have H5 := Lib.hid h5
                clear r0 r1 h5 o5
                have r0 := M5.out.1.r0
                have r1 := M5.out.1.r1
                go_wp2_with fail
                with_reducible refine (left_at (m : Int) _ H5.out (by rw [HLA.out]) rfl).mono ?_
                rintro e w6 ⟨rfl, b6⟩
                have M6 := Lib.hid (M5.out.1.call b6)
                have B6 := Lib.hid (bn M5.out.2 b6)
                have N6 := Lib.hid (N5.out.call b6)
                clear r0 r1 b6
                have r0 := M6.out.r0
                have r1 := M6.out.r1
                go_wp2_with fail
                with_reducible refine (left_at _ (m : Int) N6.out rfl HIN.out).mono ?_
                rintro e w7 ⟨rfl, b7⟩
                have M7 := Lib.hid (M6.out.call b7)
                have B7 := Lib.hid (bn B6.out b7)
                clear r0 r1 b7
                have d0 : ((m : Int) == 0) = false := by simp; omega
                go_wp2
                go_roundw
                case rel => exact ⟨1, _, by omega, rfl, HSE.out, M7.out, B7.out⟩
                case measure => simp [intOf]
              · have r0 := HM3.out.r0
                have r1 := HM3.out.r1
                have okk := HP3.out.ok true
                have okn := HP3.out.ok false
                have hlast := HP3.out.last (by omega) true rfl
                obtain ⟨m, hm⟩ : ∃ m, (W3 true).most = m := ⟨_, rfl⟩
                obtain ⟨ni, hni⟩ : ∃ m, (W3 true).ni = m := ⟨_, rfl⟩
                obtain ⟨no, hno⟩ : ∃ m, (W3 true).no = m := ⟨_, rfl⟩
                have hm1 : 1 ≤ m ∧ m ≤ 256 := ⟨hm ▸ okk.m1, hm ▸ okk.m2⟩
                have hni1 : ni < 4294967296 := hni ▸ okk.ni
                have hno1 : no < 4294967296 := hno ▸ okk.no
                have hwr : wrap64 (ni : Int) = (ni : Int) := by unfold wrap64; omega
                have HS := HP3.out.settle (by omega) true
                have HG := grant_any wr (HM3.out.win true)
                rw [hm, hni, hno] at HG HS hlast
                have HG' := Lib.hid HG
                have HSE := Lib.hid HS
                have HLA : Hid ((toldW (W3 false) (ni : Int) m no).out = m) := Lib.hid hlast
                have HIN : Hid (((grantW (W3 true)).inn : Int) = (m : Int)) := Lib.hid (by show ((W3 true).most : Int) = (m : Int); rw [hm])
                clear HG HS hlast okk okn hm hni hno
                go_wp2_with fail
                with_reducible refine HG'.out.mono ?_
                rintro e w4 ⟨rfl, h4, o4⟩
                have M4 := Lib.hid (HM3.out.turned true _ h4 o4 rfl HB3.out)
                have N4 : Hid (Win w4 (p false) (W3 false)) := Lib.hid (M4.out.1.win false)
                clear r0 r1 h4 o4
                have r0 := M4.out.1.r0
                have r1 := M4.out.1.r1
                go_wp2_with fail
                with_reducible refine (told_any (ni : Int) m no _ (by omega) hno1 N4.out).mono ?_
                rintro e w5 ⟨rfl, h5, o5⟩
                have M5 := Lib.hid (M4.out.1.turned false _ h5 o5 rfl M4.out.2)
                have N5 : Hid (Win w5 (p true) (grantW (W3 true))) := Lib.hid (M5.out.1.win true)
                have H5 := Lib.hid h5
                clear r0 r1 h5 o5
                have r0 := M5.out.1.r0
                have r1 := M5.out.1.r1
                go_wp2_with fail
                with_reducible refine (left_at (m : Int) _ H5.out (by rw [HLA.out]) rfl).mono ?_
                rintro e w6 ⟨rfl, b6⟩
                have M6 := Lib.hid (M5.out.1.call b6)
                have B6 := Lib.hid (bn M5.out.2 b6)
                have N6 := Lib.hid (N5.out.call b6)
                clear r0 r1 b6
                have r0 := M6.out.r0
                have r1 := M6.out.r1
                go_wp2_with fail
                with_reducible refine (left_at _ (m : Int) N6.out rfl HIN.out).mono ?_
                rintro e w7 ⟨rfl, b7⟩
                have M7 := Lib.hid (M6.out.call b7)
                have B7 := Lib.hid (bn B6.out b7)
                clear r0 r1 b7
                have d0 : ((m : Int) == 0) = false := by simp; omega
                go_wp2
                go_roundw
                case rel => exact ⟨2, _, by omega, rfl, HSE.out, M7.out, B7.out⟩
                case measure => simp [intOf]
            · have hj3 : j = 2 := by omega
              subst hj3
              go_wp2_with (first
                | (go_at_call 9; (with_reducible refine (works15_any _).mono ?_); rintro e w4 ⟨rfl, b4⟩)
                | fail)
              go_ret
              exact ⟨rfl, bn HB3.out b4⟩
end Go.Proofs.Ytppcfkcnaaflgaa.windowMeets
