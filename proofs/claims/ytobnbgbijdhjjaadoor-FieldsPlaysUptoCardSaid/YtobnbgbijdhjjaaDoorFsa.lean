/-
  Contract of the laws' same: what is told twice alike is the same. Memory that was there stays. Condition: values of bulk at most 2^30.
-/
import Derived.Test.YtobnbgbijdhjjaaDoorFdf
namespace Go.Proofs.YtobnbgbijdhjjaaDoor.Fl
set_option maxRecDepth 100000
open Go.RowKit Go.Proofs.YtobnbgbijdhjjaaDoor.Utf Go.Proofs.YtobnbgbijdhjjaaDoor.Val V

/-- Texts that can be read. -/
def SrR (w : World) (A : Option Addr) (n : Nat) (ts : List ByteArray) : Prop := n = ts.length ∧ ∀ j, j < n → ∃ b o t, A = some ⟨b, o, none⟩ ∧ b < w.heap.size ∧ ts[j]? = some t ∧ w.cell? ⟨b, o + j, none⟩ = some (.string t)
theorem SrR.call {w w' : World} {A : Option Addr} {n : Nat} {ts : List ByteArray} (h : SrR w A n ts) (hb : Below w.heap.size w w') : SrR w' A n ts :=
  ⟨h.1, fun j hj => by
    obtain ⟨b, o, t, e, hlt, ht, hc⟩ := h.2 j hj
    exact ⟨b, o, t, e, Nat.lt_of_lt_of_le hlt hb.size, ht, (hb.cell (p := ⟨b, o + j, none⟩) hlt).trans hc⟩⟩
theorem Strs.srr {B : Nat} {w : World} {A : Option Addr} {n c : Nat} {ts : List ByteArray} (h : Strs B w A n c ts) : SrR w A n ts :=
  ⟨h.len, fun j hj => by
    obtain ⟨g, t, e, _, hlt, ht, hc⟩ := h.at_ hj
    exact ⟨g, 0, t, e, hlt, ht, by rw [Nat.zero_add]; exact hc⟩⟩
/-- What is kept while two that are told alike are compared. -/
structure SS (w wi : World) (n : Nat) (s : ByteArray) (k m : Nat) (t : ByteArray) (ks : List V) (A A' : Option Addr) (l l' c c' : Nat) (As As' : Option Addr) (ns cs cs' : Nat) (ts : List ByteArray) (is_ : Bool) (e : Int) : Prop where
  b2 : Bx9 wi w.heap.size (.int .u64 (n : Int)) (.string s) (.int .u8 (k : Int)) (.int .u64 (m : Int)) (.string t) (.slice A l c) (.slice As ns cs) (.bool is_) (.int .i64 e)
  b3 : Bx9 wi (w.heap.size + 1) (.int .u64 (n : Int)) (.string s) (.int .u8 (k : Int)) (.int .u64 (m : Int)) (.string t) (.slice A' l' c') (.slice As' ns cs') (.bool is_) (.int .i64 e)
  kd : Kd wi ks A l c
  kd' : Kd wi ks A' l' c'
  sr : SrR wi As ns ts
  sr' : SrR wi As' ns ts
  low : Below w.heap.size w wi
theorem SS.call {w wi w' : World} {n : Nat} {s : ByteArray} {k m : Nat} {t : ByteArray} {ks : List V} {A A' : Option Addr} {l l' c c' : Nat} {As As' : Option Addr} {ns cs cs' : Nat} {ts : List ByteArray} {is_ : Bool} {e : Int} (h : SS w wi n s k m t ks A A' l l' c c' As As' ns cs cs' ts is_ e) (hb : Below wi.heap.size wi w') : SS w w' n s k m t ks A A' l l' c c' As As' ns cs cs' ts is_ e :=
  ⟨h.b2.off (Off.of (fun _ => False) hb) (fun h => h), h.b3.off (Off.of (fun _ => False) hb) (fun h => h), h.kd.call hb, h.kd'.call hb, h.sr.call hb, h.sr'.call hb, below_next h.low hb⟩
theorem xsame_eq {k n : Nat} {t : ByteArray} {ks : List V} {A A' : Option Addr} {l l' c c' : Nat} {w : World} (hN : bulkL ks ≤ 1073741824) (hk : k < 256) (hn : n < 18446744073709551616) (h : Kd w ks A l c) (h' : Kd w ks A' l' c') :
    Calls Tryd.prog 19 #[.agg #[.int .u8 (k : Int), .int .u64 (n : Int), .string t, .slice A l c], .agg #[.int .u8 (k : Int), .int .u64 (n : Int), .string t, .slice A' l' c']] w (GivesB true w) := by
  have := xsame_any (bulkL ks) k n t ks A l c k n t ks A' l' c' w (Nat.le_refl _) (by omega) hk hk hn hn h h'
  rwa [same_self] at this

set_option maxHeartbeats 2000000 in
theorem same7_eq (n : Nat) (s : ByteArray) (k m : Nat) (t : ByteArray) (ks : List V) (A A' : Option Addr) (l l' c c' : Nat) (As As' : Option Addr) (ns cs cs' : Nat) (ts : List ByteArray) (is_ : Bool) (e : Int) (w : World) (hN : bulkL ks ≤ 1073741824) (hns : ns ≤ 1099511627776) (hk : k < 256) (hm : m < 18446744073709551616)
    (hK : Kd w ks A l c) (hK' : Kd w ks A' l' c') (hs : SrR w As ns ts) (hs' : SrR w As' ns ts) :
    Calls Tryd.prog 14 #[.agg #[.int .u64 (n : Int), .string s, .int .u8 (k : Int), .int .u64 (m : Int), .string t, .slice A l c, .slice As ns cs, .bool is_, .int .i64 e], .agg #[.int .u64 (n : Int), .string s, .int .u8 (k : Int), .int .u64 (m : Int), .string t, .slice A' l' c', .slice As' ns cs', .bool is_, .int .i64 e]] w (GivesB true w) := by
  have hB : Below w.heap.size w ((w.alloc (.cells #[.int .u64 (n : Int), .string s, .int .u8 (k : Int), .int .u64 (m : Int), .string t, .slice A l c, .slice As ns cs, .bool is_, .int .i64 e] 40)).alloc (.cells #[.int .u64 (n : Int), .string s, .int .u8 (k : Int), .int .u64 (m : Int), .string t, .slice A' l' c', .slice As' ns cs', .bool is_, .int .i64 e] 40)) := two_boxes w _ _
  have hS : SS w _ n s k m t ks A A' l l' c c' As As' ns cs cs' ts is_ e := ⟨(Below.heap_alloc _ _ _ (by simp)).trans (heap_alloc_new w _), by have := heap_alloc_new (w.alloc (.cells #[.int .u64 (n : Int), .string s, .int .u8 (k : Int), .int .u64 (m : Int), .string t, .slice A l c, .slice As ns cs, .bool is_, .int .i64 e] 40)) (.cells #[.int .u64 (n : Int), .string s, .int .u8 (k : Int), .int .u64 (m : Int), .string t, .slice A' l' c', .slice As' ns cs', .bool is_, .int .i64 e] 40); rw [World.size_alloc] at this; exact this, hK.call hB, hK'.call hB, hs.call hB, hs'.call hB, hB⟩
  have HS := Lib.hid hS
  have HXS := Lib.hid (xsame_eq (t := t) hN hk hm hS.kd hS.kd')
  clear hS hB hK hK' hs hs' hN hk hm
  go_enter Tryd.func14, Tryd.ntmps14
  go_wp2_with fail
  refine HXS.out.mono ?_
  rintro e1 w1 ⟨rfl, hb1⟩
  have H1 := Lib.hid (HS.out.call hb1)
  obtain ⟨a0, a1, a2, a3, a4, a5, a6, a7, a8, _⟩ := H1.out.b2.all
  obtain ⟨b0, b1, b2, b3, b4, b5, b6, b7, b8, _⟩ := H1.out.b3.all
  clear hb1 HS HXS
  go_wp2
  clear a0 a1 a2 a3 a4 a5 a6 a7 a8 b0 b1 b2 b3 b4 b5 b6 b7 b8
  go_loopw [5] (fun i wr => ∃ j : Nat, j ≤ ns ∧ i = .int .i64 j ∧ SS w wr n s k m t ks A A' l l' c c' As As' ns cs cs' ts is_ e) (fun i _ => ns - (intOf i).toNat)
  case atStart => exact ⟨0, Nat.zero_le _, rfl, H1.out⟩
  case round =>
    obtain ⟨j, hj, rfl, hS⟩ := hrel
    have HS := Lib.hid hS
    obtain ⟨a0, a1, a2, a3, a4, a5, a6, a7, a8, _⟩ := hS.b2.all
    obtain ⟨b0, b1, b2, b3, b4, b5, b6, b7, b8, _⟩ := hS.b3.all
    clear a0 a1 a2 a3 a4 a5 a7 a8 b0 b1 b2 b3 b4 b5 b7 b8
    by_cases hlt : j < ns
    · obtain ⟨bx, ox, tx, hA, hbx, hx, hcx⟩ := hS.sr.2 j hlt
      obtain ⟨by', oy, ty, hA', hby, hy, hcy⟩ := hS.sr'.2 j hlt
      subst hA; subst hA'
      obtain rfl : ty = tx := by rw [hx] at hy; injection hy with hy; exact hy.symm
      clear hS hx hy
      go_wp2_with fail
      go_quiet (fail)
      go_wp2_with fail
      go_roundw
      case rel => exact ⟨j + 1, by omega, by go_num, HS.out.call (below_drewN (Below.refl _ _) _)⟩
      case measure => simp [intOf]; omega
    · clear hS
      go_wp2
      go_ret
      exact ⟨rfl, HS.out.low⟩
end Go.Proofs.YtobnbgbijdhjjaaDoor.Fl
