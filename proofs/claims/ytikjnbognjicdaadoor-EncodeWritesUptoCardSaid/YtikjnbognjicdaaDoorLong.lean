/-
  Contracts of encode's count, size, dataLong and long: how many bytes a plan has. Memory that was there stays. Condition: what is told of kids is below 2^50.
-/
import Derived.Test.YtikjnbognjicdaaDoorPlT
namespace Go.Proofs.YtikjnbognjicdaaDoor.Enc
set_option maxRecDepth 100000
open Go.RowKit Go.Proofs.YtikjnbognjicdaaDoor.Utf Go.Proofs.YtikjnbognjicdaaDoor.Val

def GivesI (n : Nat) (w : World) (e : Ending) (w' : World) : Prop := e = .returned (.int .i64 (n : Int)) ∧ Below w.heap.size w w'

theorem undF : (Tryd.prog.underlying 84).isSome = true := by kernel_rfl
theorem conv_int (n : Nat) (h : n < 2 ^ 53) (w : World) : (convert 84 3 (.float .f64 (fb n))).run Tryd.prog w = .ok (.int .i64 (n : Int)) w :=
  run_convert_float_int w 84 3 .f64 .i64 (fb n) (n : Int) undF Tryd.underlying3 (fb_int n h)

theorem pcount_any (NA : Option Addr) (nl nc k n : Nat) (t : ByteArray) (VA : Option Addr) (vl vc code : Nat) (bb : Bool) (KA : Option Addr) (kl kc re im : Nat) (w : World) (h : im < 2 ^ 50) : Calls Tryd.prog 42 #[.agg #[.slice NA nl nc, .int .u8 (k : Int), .int .u64 (n : Int), .string t, .slice VA vl vc, .int .u8 (code : Int), .bool bb, .slice KA kl kc, .complex .f64 (fb re) (fb im)]] w (GivesI im w) := by
  have hc := conv_int im (by omega)
  clear h
  go_enter Tryd.func42, Tryd.ntmps42
  go_wp2
  go_ret
  exact ⟨rfl, (Below.refl _ _).alloc (Nat.le_refl _) _⟩
theorem psize_any (NA : Option Addr) (nl nc k n : Nat) (t : ByteArray) (VA : Option Addr) (vl vc code : Nat) (bb : Bool) (KA : Option Addr) (kl kc re im : Nat) (x : Nat) (w : World) (hx : x ≤ 16) (h : re < 2 ^ 50) : Calls Tryd.prog 45 #[.agg #[.slice NA nl nc, .int .u8 (k : Int), .int .u64 (n : Int), .string t, .slice VA vl vc, .int .u8 (code : Int), .bool bb, .slice KA kl kc, .complex .f64 (fb re) (fb im)], .int .i64 x] w (GivesI (x + re) w) := by
  have hc := conv_int re (by omega)
  have h' : re ≤ 1125899906842624 := by omega
  clear h
  go_enter Tryd.func45, Tryd.ntmps45
  go_wp2
  go_ret
  exact ⟨by simp, (Below.refl _ _).alloc (Nat.le_refl _) _⟩

theorem dataLong_any (NA : Option Addr) (nl nc k n : Nat) (t : ByteArray) (VA : Option Addr) (vl vc code : Nat) (bb : Bool) (KA : Option Addr) (kl kc re im : Nat) (w : World) (h1 : 64 ≤ code) (h2 : code < 256) (ht : t.size ≤ 1099511627776) (hre : re ≤ 1099511627776) : Calls Tryd.prog 56 #[.agg #[.slice NA nl nc, .int .u8 (k : Int), .int .u64 (n : Int), .string t, .slice VA vl vc, .int .u8 (code : Int), .bool bb, .slice KA kl kc, .complex .f64 (fb re) (fb im)]] w (GivesI (dlong k t code re) w) := by
  have hd : dlong k t code re = if wid code = 0 then 0 else if k < 19 then wid code else if k ≤ 21 then wid code + t.size else wid code + (wid code + re) := rfl
  have hw16 := wid_le code
  have HW : ∀ wx : World, Calls Tryd.prog 72 #[.int .u8 (code : Int)] wx fun e w' => e = .returned (.int .i64 (wid code : Nat)) ∧ w' = wx := fun wx => width_any code h1 h2 wx
  rw [hd]
  obtain ⟨W, hW⟩ : ∃ W, wid code = W := ⟨_, rfl⟩
  rw [hW] at hw16 ⊢
  simp only [hW] at HW
  clear hd hW h1 h2
  by_cases h0 : W = 0
  · subst h0
    rw [if_pos rfl]
    go_enter Tryd.func56, Tryd.ntmps56
    go_wp2_with (go_at_call 72; refine (HW _).mono ?_; rintro e w1 ⟨rfl, rfl⟩)
    go_ret
    exact ⟨rfl, (Below.refl _ _).alloc (Nat.le_refl _) _⟩
  rw [if_neg h0]
  have d0 : ((W : Int) == 0) = false := by rw [beq_eq_false_iff_ne]; omega
  by_cases hk1 : k < 19
  · rw [if_pos hk1]
    have d1 : decide ((k : Int) < 19) = true := by simp; omega
    clear hk1 h0
    go_enter Tryd.func56, Tryd.ntmps56
    go_wp2_with (go_at_call 72; refine (HW _).mono ?_; rintro e w1 ⟨rfl, rfl⟩)
    go_ret
    exact ⟨rfl, (Below.refl _ _).alloc (Nat.le_refl _) _⟩
  rw [if_neg hk1]
  have d1 : decide ((k : Int) < 19) = false := by simp; omega
  by_cases hk2 : k ≤ 21
  · rw [if_pos hk2]
    have d2 : decide ((k : Int) ≤ 21) = true := by simp; omega
    clear hk1 h0 hk2
    go_enter Tryd.func56, Tryd.ntmps56
    go_wp2_with (go_at_call 72; refine (HW _).mono ?_; rintro e w1 ⟨rfl, rfl⟩)
    go_ret
    exact ⟨rfl, (Below.refl _ _).alloc (Nat.le_refl _) _⟩
  rw [if_neg hk2]
  have d2 : decide ((k : Int) ≤ 21) = false := by simp; omega
  clear hk1 h0 hk2
  have hB : Below w.heap.size w (w.alloc (.cells #[.slice NA nl nc, .int .u8 (k : Int), .int .u64 (n : Int), .string t, .slice VA vl vc, .int .u8 (code : Int), .bool bb, .slice KA kl kc, .complex .f64 (fb re) (fb im)] 56)) := (Below.refl _ _).alloc (Nat.le_refl _) _
  go_enter Tryd.func56, Tryd.ntmps56
  go_wp2_with (first
    | (go_at_call 72; refine (HW _).mono ?_; rintro e w1 ⟨rfl, rfl⟩)
    | (go_at_call 45; refine (psize_any NA nl nc k n t VA vl vc code bb KA kl kc re im W _ (by omega) (by omega)).mono ?_; rintro e w1 ⟨rfl, hb1⟩; have hb2 := below_next hB hb1))
  go_ret
  exact ⟨ret_int (by go_num), hb2⟩

set_option maxHeartbeats 800000 in
theorem long_any (N : Nat) : ∀ (ns ks : List Pl) (NA : Option Addr) (nl nc k n : Nat) (t : ByteArray) (VA : Option Addr) (vl vc code : Nat) (bb : Bool) (KA : Option Addr) (kl kc re im : Nat) (w : World), rank (.mk ns k n t code bb ks re im) ≤ N → Fine 1099511627776 (.mk ns k n t code bb ks re im) → Pd w ns NA nl nc →
    Calls Tryd.prog 31 #[.agg #[.slice NA nl nc, .int .u8 (k : Int), .int .u64 (n : Int), .string t, .slice VA vl vc, .int .u8 (code : Int), .bool bb, .slice KA kl kc, .complex .f64 (fb re) (fb im)]] w (GivesI (long (.mk ns k n t code bb ks re im)) w) := by
  induction N using Nat.strongRecOn with
  | ind N ih =>
  intro ns ks NA nl nc k n t VA vl vc code bb KA kl kc re im w hN hF hNs
  obtain ⟨⟨h1, h2, ht, hre, him, hlong, _⟩, _, hFn, _⟩ := hF
  have HD : ∀ wx : World, Calls Tryd.prog 56 #[.agg #[.slice NA nl nc, .int .u8 (k : Int), .int .u64 (n : Int), .string t, .slice VA vl vc, .int .u8 (code : Int), .bool bb, .slice KA kl kc, .complex .f64 (fb re) (fb im)]] wx (GivesI (dlong k t code re) wx) := fun wx => dataLong_any NA nl nc k n t VA vl vc code bb KA kl kc re im wx h1 h2 ht hre
  have hdl : dlong k t code re ≤ 1099511627808 := dlong_le k code ht hre
  simp only [long]
  obtain ⟨D, hD⟩ : ∃ D, dlong k t code re = D := ⟨_, rfl⟩
  simp only [hD] at HD hdl ⊢
  simp only [rank] at hN
  clear hD h1 h2 ht hre him
  have hbx := Bx.new w (.slice NA nl nc) (.int .u8 (k : Int)) (.int .u64 (n : Int)) (.string t) (.slice VA vl vc) (.int .u8 (code : Int)) (.bool bb) (.slice KA kl kc) (.complex .f64 (fb re) (fb im))
  have hB : Below w.heap.size w (w.alloc (.cells #[.slice NA nl nc, .int .u8 (k : Int), .int .u64 (n : Int), .string t, .slice VA vl vc, .int .u8 (code : Int), .bool bb, .slice KA kl kc, .complex .f64 (fb re) (fb im)] 56)) := (Below.refl _ _).alloc (Nat.le_refl _) _
  have HX := Lib.hid hbx
  clear hbx
  have hsc := store_cplx
  have IH := Lib.hid ih
  clear ih
  cases bb
  · have hl1 : nl ≤ ns.length := Nat.le_of_eq hNs.len
    have hl2 : ns.length ≤ nl := Nat.le_of_eq hNs.len.symm
    have hlb := longN_len ns
    go_enter Tryd.func31, Tryd.ntmps31
    go_wp2_with (go_at_call 56; refine (HD _).mono ?_; rintro e w1 ⟨rfl, hb1⟩; have hX1 := HX.out.call hb1; have hX2 := hX1.all; obtain ⟨c0, c1, c2, c3, c4, c5, c6, c7, c8, cf⟩ := hX2; have hb2 := below_next hB hb1)
    go_loopw [3, 14] (fun m i wr => ∃ j : Nat, j ≤ nl ∧ i = .int .i64 j ∧ m = .int .i64 ((longN (ns.take j) + D : Nat) : Int) ∧ Below w.heap.size w wr) (fun _ i _ => nl - (intOf i).toNat)
    case atStart => exact ⟨0, Nat.zero_le _, rfl, by simp [longN], hb2⟩
    case round =>
      obtain ⟨j, hj, rfl, rfl, hb⟩ := hrel
      clear hX1 c0 c1 c2 c3 c4 c5 c6 c7 c8 cf hb1 hb2
      by_cases hlt : j < nl
      · have hK2 := hNs.call hb
        obtain ⟨b, o, ns', k', n', t', code', bb', ks', re', im', NA', nl', nc', VA', vl', vc', KA', kl', kc', rfl, hb', hx, ⟨a0, a1, a2, a3, a4, a5, a6, a7, a8⟩, hN', _⟩ := hK2.at_ hlt
        have hrk := rankL_at hx
        have hfn := fineL_at hFn hx
        have HT := Lib.hid (longN_take hx)
        have htl := longN_take_le ns (j + 1)
        have htl2 : longN (ns.take j) + (1 + long (.mk ns' k' n' t' code' bb' ks' re' im')) ≤ 1099511627776 := by have := HT.out; omega
        clear hx
        have hb3 := hb.alloc hb.size (.cells #[.slice NA' nl' nc', .int .u8 (k' : Int), .int .u64 (n' : Int), .string t', .slice VA' vl' vc', .int .u8 (code' : Int), .bool bb', .slice KA' kl' kc', .complex .f64 (fb re') (fb im')] 56)
        obtain ⟨LP, hLP⟩ : ∃ LP, long (.mk ns' k' n' t' code' bb' ks' re' im') = LP := ⟨_, rfl⟩
        have hcall : ∀ wx : World, Pd wx ns' NA' nl' nc' → Calls Tryd.prog 31 #[.agg #[.slice NA' nl' nc', .int .u8 (k' : Int), .int .u64 (n' : Int), .string t', .slice VA' vl' vc', .int .u8 (code' : Int), .bool bb', .slice KA' kl' kc', .complex .f64 (fb re') (fb im')]] wx (GivesI LP wx) := fun wx h => hLP ▸ IH.out (rank (.mk ns' k' n' t' code' bb' ks' re' im')) (by omega) ns' ks' NA' nl' nc' k' n' t' VA' vl' vc' code' bb' KA' kl' kc' re' im' wx (Nat.le_refl _) hfn h
        rw [hLP] at htl2
        have HT' : Hid (longN (ns.take (j + 1)) = longN (ns.take j) + (1 + LP)) := Lib.hid (by rw [HT.out, hLP])
        obtain ⟨LN, hLN⟩ : ∃ LN, longN (ns.take j) = LN := ⟨_, rfl⟩
        simp only [hLN] at HT' htl2 ⊢
        clear hLP hLN HT hfn hrk htl
        go_wp2_with (go_at_call 31; refine (hcall _ (hN'.alloc _)).mono ?_; rintro e w2 ⟨rfl, hb2⟩; have hb4 := below_next hb3 hb2)
        go_roundw
        case rel => exact ⟨j + 1, by omega, by go_num, by rw [HT'.out]; go_num, hb4⟩
        case measure => simp [intOf]; omega
      · have HE : Hid (ns.take j = ns) := Lib.hid (List.take_of_length_le (by omega))
        have hq : longN (ns.take j) ≤ 1099511627776 := by rw [HE.out]; omega
        go_wp2
        go_ret
        exact ⟨ret_int (by rw [HE.out]; go_num), hb⟩
  · go_enter Tryd.func31, Tryd.ntmps31
    go_wp2_with (go_at_call 56; refine (HD _).mono ?_; rintro e w1 ⟨rfl, hb1⟩; have hX1 := HX.out.call hb1; have hX2 := hX1.all; obtain ⟨c0, c1, c2, c3, c4, c5, c6, c7, c8, cf⟩ := hX2; have hb2 := below_next hB hb1)
    go_ret
    exact ⟨rfl, hb2⟩
end Go.Proofs.YtikjnbognjicdaaDoor.Enc
