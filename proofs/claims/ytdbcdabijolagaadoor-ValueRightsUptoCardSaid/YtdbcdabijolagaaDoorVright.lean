/-
  Contract of value.Right, given keyTwice's. Memory that was there stays. Condition: values of bulk at most 2^30.
-/
import Derived.Test.YtdbcdabijolagaaDoorWright
namespace Go.Proofs.YtdbcdabijolagaaDoor.Val
open Go.RowKit Go.Proofs.YtdbcdabijolagaaDoor.Utf V

theorem okD_okB (v : V) : okD 0 1 v = okB v := by
  cases h : okB v with
  | true =>
    simp only [okB, Bool.and_eq_true, decide_eq_true_eq] at h
    exact okD_of (by omega) (by omega) h.2
  | false =>
    refine okD_no fun h' => ?_
    obtain ⟨h1, h2, h3⟩ := okD_one h'
    have : okB v = true := by
      simp only [okB, Bool.and_eq_true, decide_eq_true_eq]
      exact ⟨⟨by omega, by omega⟩, h3⟩
    rw [h] at this
    cases this

set_option maxRecDepth 100000 in
set_option maxHeartbeats 800000 in
theorem vright_of (hT : TwiceAny) (k n : Nat) (t : ByteArray) (ks : List V) (A : Option Addr) (l c : Nat) (w : World) (hN : bulkL ks ≤ 1073741824) (ht : t.size ≤ 1073741824) (hn : n < 18446744073709551616) (hK : Kd w ks A l c) (hTab : Tab w) :
    Calls Tryd.prog 13 #[.agg #[.int .u8 k, .int .u64 n, .string t, .slice A l c]] w (GivesB (okB (.mk k n t ks)) w) := by
  have hB := two_boxes w (.cells #[.int .u8 k, .int .u64 n, .string t, .slice A l c] 25) (.cells #[.int .i64 0] 48)
  have g0 := Boxed.new (w.alloc (.cells #[.int .u8 k, .int .u64 n, .string t, .slice A l c] 25)) 48 (.int .i64 0)
  simp only [World.size_alloc] at g0
  have hp := hTab.pos
  have HT := Lib.hid hTab
  clear hTab
  go_enter Tryd.func13, Tryd.ntmps13
  go_wp2_with fail
  refine (wright_of hT (bulkL ks) k n t ks A l c 1 0 (w.heap.size + 1) w.heap.size _ (Nat.le_refl _) hN ht hn (by omega) (by omega) (hK.keep fun i hi => hB.block i hi) (HT.out.call hB) hp (by omega) g0).mono ?_
  rintro e w2 ⟨c1, rfl, _, _, hg⟩
  rw [okD_okB]
  go_wp2
  go_ret
  exact ⟨rfl, hB.grown hg hB.size (fun k e => by cases e; omega)⟩
end Go.Proofs.YtdbcdabijolagaaDoor.Val
