/-
  Package window: contracts of Got, Told, Need, Grant, Left, and of all calls of no window. Memory that was there stays, but for the window's own block. Conditions: numbers of 32 bits are such.
-/
import Derived.Test.YtppcfkcnaaflgaaWno
namespace Go.Proofs.Ytppcfkcnaaflgaa.Wn
set_option maxRecDepth 100000
open Go.RowKit Go.Proofs.Ytppcfkcnaaflgaa.Utf Go.Proofs.Ytppcfkcnaaflgaa.Ob

section
variable {w w' : World} {b : Nat} {W : Wn}
theorem got_any (w : World) (h : Win w b W) : Calls Try.prog 21 #[.pointer (some ⟨b, 0, none⟩)] w (Leaves b (gotW W) (.bool (gotB W)) w) := by
  have H := Lib.hid h
  have x1 := h.c1
  have x2 := h.c2
  have x4 := h.c4
  by_cases hb : gotB W = true
  · have hi : 0 < W.inn := by simp [gotB] at hb; omega
    have hk : W.known = true := by simp [gotB] at hb; exact hb.2
    have hW : gotW W = { W with inn := W.inn - 1, ni := (W.ni + 1) % 4294967296 } := by unfold gotW; rw [if_pos hb]
    rw [hW, hb]
    rw [hk] at x2
    obtain ⟨p, hp⟩ : ∃ p, (W.ni + 1) % 4294967296 = p := ⟨_, rfl⟩
    obtain ⟨q, hq⟩ : ∃ q, W.inn - 1 = q := ⟨_, rfl⟩
    have h1 := h.setNi p (by omega)
    have h2 := h1.setInn q (by have := h.ok.inn; simp only; omega)
    have d : ((W.inn : Int) == 0) = false := by simp; omega
    have eq1 : ((W.inn : Int) - 1) % 4294967296 = (q : Int) := by have := h.ok.inn; have := h.ok.m2; omega
    have HA := Lib.hid (fun wx => ser_add_any (W.ni : Int) 1 wx)
    have ep : ((W.ni : Int) + 1) % 4294967296 = (p : Int) := by omega
    rw [ep] at HA
    rw [hp, hq]
    have f1 := h.frz 1
    have y4 := h1.c4
    have g4 := h1.frz 4
    have H2 := Lib.hid h2
    clear h hW hb hi hk hp hq h1 h2 ep
    go_enter Try.func21, Try.ntmps21
    go_wp2_with (first
      | (go_at_call 31; (with_reducible refine (HA.out _).mono ?_); rintro e w1 ⟨rfl, rfl⟩)
      | fail)
    go_ret
    exact ⟨rfl, H2.out, off2 _ _ _ _ _ _⟩
  · have hb' : gotB W = false := by simpa using hb
    have hW : gotW W = W := by unfold gotW; rw [if_neg hb]
    rw [hW, hb']
    by_cases hi : W.inn = 0
    · rw [hi] at x4
      clear h hW hb hb' hi
      go_enter Try.func21, Try.ntmps21
      go_wp2
      go_ret
      exact ⟨rfl, H.out, Off.refl _ _⟩
    · have hk : W.known = false := by simp [gotB] at hb'; exact hb' (by omega)
      rw [hk] at x2
      have d : ((W.inn : Int) == 0) = false := by simp; omega
      clear h hW hb hb' hi hk
      go_enter Try.func21, Try.ntmps21
      go_wp2
      go_ret
      exact ⟨rfl, H.out, Off.refl _ _⟩
def aheadN (x : Nat) : Nat := if x < 2147483648 then min x 256 else 0
theorem ahead_any (a c : Int) (x : Nat) (w : World) (hx : (c - a) % 4294967296 = (x : Int)) : Calls Try.prog 32 #[.int .u32 a, .int .u32 c] w fun e w' => e = .returned (.int .u32 ((aheadN x : Nat) : Int)) ∧ w = w' := by
  have hS := fun wx => ser_span_any a c (x : Int) wx hx
  by_cases h : x < 2147483648
  · have e1 : spanV (x : Int) = .tuple #[.int .i64 ((x : Int) + 1), .bool true] := by unfold spanV; rw [if_pos (by omega)]
    have e2 : aheadN x = min x 256 := by unfold aheadN; rw [if_pos h]
    have HM := Lib.hid (fun wx => wmost_any x wx (by omega))
    rw [e2]
    have HS := Lib.hid hS
    rw [e1] at HS
    clear hS hx e1 e2
    obtain ⟨m, hm⟩ : ∃ m : Nat, min x 256 = m := ⟨_, rfl⟩
    rw [hm] at HM ⊢
    clear hm
    go_enter Try.func32, Try.ntmps32
    go_wp2_with (first
      | (go_at_call 33; (with_reducible refine (HS.out _).mono ?_); rintro e w1 ⟨rfl, rfl⟩)
      | (go_at_call 23; (with_reducible refine (HM.out _).mono ?_); rintro e w2 ⟨rfl, rfl⟩)
      | fail)
    go_ret
    exact ⟨rfl, rfl⟩
  · have e1 : spanV (x : Int) = .tuple #[.int .i64 0, .bool false] := by unfold spanV; rw [if_neg (by omega)]
    have e2 : aheadN x = 0 := by unfold aheadN; rw [if_neg h]
    rw [e2]
    have HS := Lib.hid hS
    rw [e1] at HS
    clear hS hx e1 e2 h
    go_enter Try.func32, Try.ntmps32
    go_wp2_with (first
      | (go_at_call 33; (with_reducible refine (HS.out _).mono ?_); rintro e w1 ⟨rfl, rfl⟩)
      | fail)
    go_ret
    exact ⟨rfl, rfl⟩
theorem need_any (w : World) (h : Win w b W) : Calls Try.prog 22 #[.pointer (some ⟨b, 0, none⟩)] w (Leaves b W (.bool (needB W)) w) := by
  have H := Lib.hid h
  have x4 := h.c4
  have x5 := h.c5
  have hv : needB W = decide ((W.inn : Int) ≤ (W.most : Int) / 2 % 4294967296) := by have := h.ok.m2; unfold needB; congr 1; apply propext; omega
  obtain ⟨v, hd⟩ : ∃ v, decide ((W.inn : Int) ≤ (W.most : Int) / 2 % 4294967296) = v := ⟨_, rfl⟩
  have em : (W.most : Int).tdiv 2 = (W.most : Int) / 2 := Int.tdiv_eq_ediv_of_nonneg (by omega)
  rw [hv, hd]
  clear h hv
  go_enter Try.func22, Try.ntmps22
  go_wp2_with fail
  go_quiet (fail)
  go_wp2
  go_ret
  exact ⟨rfl, H.out.call (bdn (Below.refl _ _) _), Off.of _ (bdn (Below.refl _ _) _)⟩
theorem grant_any (w : World) (h : Win w b W) : Calls Try.prog 18 #[.pointer (some ⟨b, 0, none⟩)] w (Leaves b (grantW W) (.tuple #[.int .u32 (W.ni : Int), .int .u32 (W.most : Int), .int .u32 (W.no : Int)]) w) := by
  have x4 := h.c4
  have x5 := h.c5
  have f4 := h.frz 4
  have h1 := h.setInn W.most (Nat.le_refl _)
  have y1 : (w.setCell ⟨b, 4, none⟩ (.int .u32 (W.most : Int))).cell? ⟨b, 1, none⟩ = _ := h1.c1
  have y0 : (w.setCell ⟨b, 4, none⟩ (.int .u32 (W.most : Int))).cell? ⟨b, 0, none⟩ = _ := h1.c0
  have y4 : (w.setCell ⟨b, 4, none⟩ (.int .u32 (W.most : Int))).cell? ⟨b, 4, none⟩ = some (.int .u32 (W.most : Int)) := h1.c4
  have H1 := Lib.hid h1
  clear h h1
  go_enter Try.func18, Try.ntmps18
  go_wp2_with fail
  go_quiet (fail)
  go_wp2
  refine bodyPost_ret (v := .tuple #[.int .u32 (W.ni : Int), .int .u32 (W.most : Int), .int .u32 (W.no : Int)]) (by simp [results, Try.results18, go_sem]) rfl ?_
  exact ⟨rfl, H1.out.call (bdn (Below.refl _ _) _), (Off.set (X := fun i => i = b) (g := b) _ _ _ rfl).drewN _⟩
theorem left_any (w : World) (h : Win w b W) : Calls Try.prog 14 #[.pointer (some ⟨b, 0, none⟩)] w fun e w' => e = .returned (.tuple #[.int .u32 (W.out : Int), .int .u32 (W.inn : Int)]) ∧ Below w.heap.size w w' := by
  have x3 := h.c3
  have x4 := h.c4
  clear h
  go_enter Try.func14, Try.ntmps14
  go_wp2_with fail
  go_quiet (fail)
  go_wp2
  refine bodyPost_ret (v := .tuple #[.int .u32 (W.out : Int), .int .u32 (W.inn : Int)]) (by simp [results, Try.results14, go_sem]) rfl ?_
  exact ⟨rfl, bdn (Below.refl _ _) _⟩
theorem lx (N : Int) (i no : Nat) (hi : i < 4294967296) (hno : no < 4294967296) : ∃ x : Nat, leftN N i no = aheadN x ∧ ((IntKind.u32.wrap (if N < 0 then 0 else N) + IntKind.i64.wrap (i : Int)) % 4294967296 - (no : Int)) % 4294967296 = (x : Int) := by
  refine ⟨((max N 0).toNat + i + (4294967296 - no)) % 4294967296, rfl, ?_⟩
  have e1 : IntKind.u32.wrap (if N < 0 then 0 else N) = (max N 0) % 4294967296 := by
    rw [IntKind.wrap_u32]
    split <;> omega
  have e2 : IntKind.i64.wrap (i : Int) = (i : Int) := by rw [IntKind.wrap_i64]; omega
  rw [e1, e2]
  omega
set_option maxHeartbeats 2000000 in
theorem told_any (N : Int) (i o : Nat) (w : World) (hi : i < 4294967296) (ho : o < 4294967296) (h : Win w b W) : Calls Try.prog 20 #[.pointer (some ⟨b, 0, none⟩), .int .i64 N, .int .u32 (i : Int), .int .u32 (o : Int)] w (Leaves b (toldW W N i o) (.tuple #[]) w) := by
  have H := Lib.hid h
  have x0 := h.c0
  obtain ⟨x, hl, hx⟩ := lx N i W.no hi h.ok.no
  obtain ⟨Y, hY⟩ : ∃ Y : Int, (IntKind.u32.wrap (if N < 0 then 0 else N) + IntKind.i64.wrap (i : Int)) % 4294967296 = Y := ⟨_, rfl⟩
  rw [hY] at hx
  obtain ⟨T2, hT2⟩ : ∃ I : Int, (if N < 0 then 0 else N) = I := ⟨_, rfl⟩
  obtain ⟨T, hT⟩ : ∃ T : Int, IntKind.u32.wrap T2 = T := ⟨_, rfl⟩
  obtain ⟨I, hI⟩ : ∃ I : Int, IntKind.i64.wrap (i : Int) = I := ⟨_, rfl⟩
  have HA := Lib.hid (fun wx => ser_add_any (IntKind.u32.wrap (if N < 0 then 0 else N)) (IntKind.i64.wrap (i : Int)) wx)
  have HH := Lib.hid (fun wx => ahead_any (W.no : Int) Y x wx hx)
  rw [hT2, hT, hI] at HA hY
  rw [hY] at HA
  have HT := Lib.hid hT
  have HI := Lib.hid hI
  have HT2 := Lib.hid hT2
  have ha : aheadN x ≤ 256 := by rw [← hl]; exact left_le _ _ _
  have hv : toldW W N i o = { W with out := aheadN x, ni := if W.known then W.ni else o, known := true } := by unfold toldW; rw [hl]
  rw [hv]
  clear hv hl hx hY hT hI hT2
  obtain ⟨q, hq⟩ : ∃ q, aheadN x = q := ⟨_, rfl⟩
  rw [hq] at HH ha ⊢
  clear hq
  have hb0 : Below w.heap.size w w.drew := (Below.refl _ _).drew
  have z0 : w.drew.cell? ⟨b, 0, none⟩ = some (.int .u32 (W.no : Int)) := x0
  have H1 := Lib.hid ((h.setOut q ha).call (bd (Below.refl _ _)))
  have x3 := (h.call hb0).c3
  have f3 := (h.call hb0).frz 3
  have y0 : (w.setCell ⟨b, 3, none⟩ (.int .u32 (q : Int))).drew.cell? ⟨b, 0, none⟩ = some (.int .u32 (W.no : Int)) := H1.out.c0
  have y2 : (w.setCell ⟨b, 3, none⟩ (.int .u32 (q : Int))).drew.cell? ⟨b, 2, none⟩ = some (.bool W.known) := H1.out.c2
  have O1 := Lib.hid ((Off.set (X := fun i => i = b) (g := b) w 3 (.int .u32 (q : Int)) rfl).drew)
  clear h ha hi
  cases hk : W.known with
  | false =>
    rw [hk] at y2
    have hK := Lib.hid (know_any o _ ho H1.out)
    rw [if_neg (by simp)]
    clear hk
    go_enter Try.func20, Try.ntmps20
    go_wp2_with fail
    go_region_held3 (fun wx => wx.cell? ⟨b, 0, none⟩ = some (.int .u32 (W.no : Int)))
      (with_reducible first | assumption | exact z0 | exact y0 | fail)
      ((first
        | (go_at_call 31; (simp only [HT.out, HI.out, HT2.out]); (with_reducible refine (HA.out _).mono ?_); rintro e w1 ⟨rfl, rfl⟩)
        | (go_at_call 32; (with_reducible refine (HH.out _).mono ?_); rintro e w2 ⟨rfl, rfl⟩)
        | fail))
    go_wp2_with (first
      | (go_at_call 30; (with_reducible refine hK.out.mono ?_); rintro e w1 ⟨rfl, h1, o1⟩)
      | fail)
    go_end0
    exact ⟨rfl, h1, O1.out.trans o1⟩
  | true =>
    rw [hk] at y2 H1
    rw [if_pos rfl]
    clear hk
    go_enter Try.func20, Try.ntmps20
    go_wp2_with fail
    go_region_held3 (fun wx => wx.cell? ⟨b, 0, none⟩ = some (.int .u32 (W.no : Int)))
      (with_reducible first | assumption | exact z0 | exact y0 | fail)
      ((first
        | (go_at_call 31; (simp only [HT.out, HI.out, HT2.out]); (with_reducible refine (HA.out _).mono ?_); rintro e w1 ⟨rfl, rfl⟩)
        | (go_at_call 32; (with_reducible refine (HH.out _).mono ?_); rintro e w2 ⟨rfl, rfl⟩)
        | fail))
    go_wp2
    go_end0
    exact ⟨rfl, H1.out, O1.out⟩
theorem nil_begun (n i : Int) (w : World) : Calls Try.prog 16 #[.pointer none, .int .u32 n, .int .u32 i] w fun e w' => e = .returned (.tuple #[]) ∧ w = w' := by
  go_enter Try.func16, Try.ntmps16
  go_wp2
  go_end0
  exact ⟨rfl, rfl⟩
theorem nil_sent (w : World) : Calls Try.prog 17 #[.pointer none] w fun e w' => e = .returned (.tuple #[.int .u32 0, .bool false]) ∧ w = w' := by
  go_enter Try.func17, Try.ntmps17
  go_wp2
  refine bodyPost_ret (v := .tuple #[.int .u32 0, .bool false]) (by simp [results, Try.results17, go_sem]) rfl ?_
  exact ⟨rfl, rfl⟩
theorem nil_got (w : World) : Calls Try.prog 21 #[.pointer none] w fun e w' => e = .returned (.bool false) ∧ w = w' := by
  go_enter Try.func21, Try.ntmps21
  go_wp2
  go_ret
  exact ⟨rfl, rfl⟩
theorem nil_told (N i o : Int) (w : World) : Calls Try.prog 20 #[.pointer none, .int .i64 N, .int .u32 i, .int .u32 o] w fun e w' => e = .returned (.tuple #[]) ∧ w = w' := by
  go_enter Try.func20, Try.ntmps20
  go_wp2
  refine bodyPost_ret (v := .tuple #[]) (by simp [results, Try.results20, go_sem]) rfl ?_
  exact ⟨rfl, rfl⟩
theorem nil_need (w : World) : Calls Try.prog 22 #[.pointer none] w fun e w' => e = .returned (.bool false) ∧ Below w.heap.size w w' := by
  go_enter Try.func22, Try.ntmps22
  go_wp2_with fail
  go_quiet (fail)
  go_wp2
  go_ret
  exact ⟨rfl, bdn (Below.refl _ _) _⟩
theorem nil_grant (w : World) : Calls Try.prog 18 #[.pointer none] w fun e w' => e = .returned (.tuple #[.int .u32 0, .int .u32 0, .int .u32 0]) ∧ w = w' := by
  go_enter Try.func18, Try.ntmps18
  go_wp2
  refine bodyPost_ret (v := .tuple #[.int .u32 0, .int .u32 0, .int .u32 0]) (by simp [results, Try.results18, go_sem]) rfl ?_
  exact ⟨rfl, rfl⟩
theorem nil_left (w : World) : Calls Try.prog 14 #[.pointer none] w fun e w' => e = .returned (.tuple #[.int .u32 0, .int .u32 0]) ∧ w = w' := by
  go_enter Try.func14, Try.ntmps14
  go_wp2
  refine bodyPost_ret (v := .tuple #[.int .u32 0, .int .u32 0]) (by simp [results, Try.results14, go_sem]) rfl ?_
  exact ⟨rfl, rfl⟩
end
end Go.Proofs.Ytppcfkcnaaflgaa.Wn
