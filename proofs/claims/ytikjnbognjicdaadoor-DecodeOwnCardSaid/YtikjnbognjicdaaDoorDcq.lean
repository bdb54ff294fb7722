/-
  Contract of decode's plain: the value without kids that a code's data tell. For all bytes.
-/
import Derived.Test.YtikjnbognjicdaaDoorDcp
namespace Go.Proofs.YtikjnbognjicdaaDoor.Dec
set_option maxRecDepth 100000
open Go.RowKit Go.Proofs.YtikjnbognjicdaaDoor.Utf Go.Proofs.YtikjnbognjicdaaDoor.Val V

set_option maxHeartbeats 1000000 in
theorem plain_1 {B : Nat} {A : Option Addr} {n cc c : Nat} {d : List Nat} {w : World} (hr : Rd .u8 256 w B A n d) (hB : B ≤ w.heap.size) (hk : kof c = 1) :
    Calls Tryd.prog 100 #[.int .u8 (c : Int), .slice A n cc] w (GivesP (plainV c d) w) := by
  have hv : plainV c d = .mk 1 0 ⟨#[]⟩ [] := by unfold plainV; rw [if_pos hk]
  have h0 := Box.new w (.int .u8 0) (.int .u64 0) (.string ⟨#[]⟩) (.slice none 0 0)
  have hb0 : Below w.heap.size w (w.alloc (.cells #[.int .u8 0, .int .u64 0, .string ⟨#[]⟩, .slice none 0 0] 25)) := (Below.refl _ _).alloc (Nat.le_refl _) _
  have hR := hr.alloc hB (.cells #[.int .u8 0, .int .u64 0, .string ⟨#[]⟩, .slice none 0 0] 25)
  have hst := run_str cc hR
  have hK := Lib.hid hk
  have hl := hr.len
  have HL := Lib.hid hl
  clear hk hl
  go_enter Tryd.func100, Tryd.ntmps100
  go_wp2_with (first
    | (go_at_call 103; refine (tell_any B A n cc d _ hR).mono ?_; rintro e w' ⟨⟨p, rfl⟩, rfl⟩)
    | (go_at_call 85; refine (kind_any c _).mono ?_; rintro e w' ⟨rfl, rfl⟩; rw [hK.out])
    | (go_at_call 47; refine (signed_any (tn d) n _).mono ?_; rintro e w' ⟨rfl, rfl⟩)
    | (go_at_call 70; refine (null_any _).mono ?_; rintro e w1 ⟨rfl, hb⟩; have hb1 := below_next hb0 hb; obtain ⟨c0, c1, c2, c3, f⟩ := (h0.call hb).all)
    | (go_at_call 26; refine (number_any 1 0 _).mono ?_; rintro e w1 ⟨rfl, hb⟩; have hb1 := below_next hb0 hb; obtain ⟨c0, c1, c2, c3, f⟩ := (h0.call hb).all)
    | (go_at_call 23; refine (text_any' 1 (sb d) _).mono ?_; rintro e w1 ⟨rfl, hb⟩; have hb1 := below_next hb0 hb; obtain ⟨c0, c1, c2, c3, f⟩ := (h0.call hb).all))
  exact bodyPost_ret (v := .agg #[.int .u8 1, .int .u64 0, .string ⟨#[]⟩, .slice none 0 0]) (by simp [results, Tryd.results100, go_sem, c0, c1, c2, c3]) rfl ⟨by rw [hv]; rfl, below_set4 hb1 (Nat.le_refl _) _ _ _ _⟩
set_option maxHeartbeats 1000000 in
theorem plain_2t {B : Nat} {A : Option Addr} {n cc c : Nat} {d : List Nat} {w : World} (hr : Rd .u8 256 w B A n d) (hB : B ≤ w.heap.size) (hk : kof c = 2) (hc : c = 65) :
    Calls Tryd.prog 100 #[.int .u8 (c : Int), .slice A n cc] w (GivesP (plainV c d) w) := by
  have hv : plainV c d = .mk 2 1 ⟨#[]⟩ [] := by unfold plainV; rw [if_neg (by omega), if_pos hk, if_pos hc]
  have hd : ((c : Int) == 65) = true := by simp; omega
  clear hc
  have h0 := Box.new w (.int .u8 0) (.int .u64 0) (.string ⟨#[]⟩) (.slice none 0 0)
  have hb0 : Below w.heap.size w (w.alloc (.cells #[.int .u8 0, .int .u64 0, .string ⟨#[]⟩, .slice none 0 0] 25)) := (Below.refl _ _).alloc (Nat.le_refl _) _
  have hR := hr.alloc hB (.cells #[.int .u8 0, .int .u64 0, .string ⟨#[]⟩, .slice none 0 0] 25)
  have hst := run_str cc hR
  have hK := Lib.hid hk
  have hl := hr.len
  have HL := Lib.hid hl
  clear hk hl
  go_enter Tryd.func100, Tryd.ntmps100
  go_wp2_with (first
    | (go_at_call 103; refine (tell_any B A n cc d _ hR).mono ?_; rintro e w' ⟨⟨p, rfl⟩, rfl⟩)
    | (go_at_call 85; refine (kind_any c _).mono ?_; rintro e w' ⟨rfl, rfl⟩; rw [hK.out])
    | (go_at_call 47; refine (signed_any (tn d) n _).mono ?_; rintro e w' ⟨rfl, rfl⟩)
    | (go_at_call 70; refine (null_any _).mono ?_; rintro e w1 ⟨rfl, hb⟩; have hb1 := below_next hb0 hb; obtain ⟨c0, c1, c2, c3, f⟩ := (h0.call hb).all)
    | (go_at_call 26; refine (number_any 2 1 _).mono ?_; rintro e w1 ⟨rfl, hb⟩; have hb1 := below_next hb0 hb; obtain ⟨c0, c1, c2, c3, f⟩ := (h0.call hb).all)
    | (go_at_call 23; refine (text_any' 2 (sb d) _).mono ?_; rintro e w1 ⟨rfl, hb⟩; have hb1 := below_next hb0 hb; obtain ⟨c0, c1, c2, c3, f⟩ := (h0.call hb).all))
  exact bodyPost_ret (v := .agg #[.int .u8 2, .int .u64 1, .string ⟨#[]⟩, .slice none 0 0]) (by simp [results, Tryd.results100, go_sem, c0, c1, c2, c3]) rfl ⟨by rw [hv]; rfl, below_set4 hb1 (Nat.le_refl _) _ _ _ _⟩
set_option maxHeartbeats 1000000 in
theorem plain_2f {B : Nat} {A : Option Addr} {n cc c : Nat} {d : List Nat} {w : World} (hr : Rd .u8 256 w B A n d) (hB : B ≤ w.heap.size) (hk : kof c = 2) (hc : c ≠ 65) :
    Calls Tryd.prog 100 #[.int .u8 (c : Int), .slice A n cc] w (GivesP (plainV c d) w) := by
  have hv : plainV c d = .mk 2 (tn d) ⟨#[]⟩ [] := by unfold plainV; rw [if_neg (by omega), if_pos hk, if_neg hc]
  have hd : ((c : Int) == 65) = false := by simp; omega
  clear hc
  have h0 := Box.new w (.int .u8 0) (.int .u64 0) (.string ⟨#[]⟩) (.slice none 0 0)
  have hb0 : Below w.heap.size w (w.alloc (.cells #[.int .u8 0, .int .u64 0, .string ⟨#[]⟩, .slice none 0 0] 25)) := (Below.refl _ _).alloc (Nat.le_refl _) _
  have hR := hr.alloc hB (.cells #[.int .u8 0, .int .u64 0, .string ⟨#[]⟩, .slice none 0 0] 25)
  have hst := run_str cc hR
  have hK := Lib.hid hk
  have hl := hr.len
  have HL := Lib.hid hl
  clear hk hl
  go_enter Tryd.func100, Tryd.ntmps100
  go_wp2_with (first
    | (go_at_call 103; refine (tell_any B A n cc d _ hR).mono ?_; rintro e w' ⟨⟨p, rfl⟩, rfl⟩)
    | (go_at_call 85; refine (kind_any c _).mono ?_; rintro e w' ⟨rfl, rfl⟩; rw [hK.out])
    | (go_at_call 47; refine (signed_any (tn d) n _).mono ?_; rintro e w' ⟨rfl, rfl⟩)
    | (go_at_call 70; refine (null_any _).mono ?_; rintro e w1 ⟨rfl, hb⟩; have hb1 := below_next hb0 hb; obtain ⟨c0, c1, c2, c3, f⟩ := (h0.call hb).all)
    | (go_at_call 26; refine (number_any 2 (tn d) _).mono ?_; rintro e w1 ⟨rfl, hb⟩; have hb1 := below_next hb0 hb; obtain ⟨c0, c1, c2, c3, f⟩ := (h0.call hb).all)
    | (go_at_call 23; refine (text_any' 2 (sb d) _).mono ?_; rintro e w1 ⟨rfl, hb⟩; have hb1 := below_next hb0 hb; obtain ⟨c0, c1, c2, c3, f⟩ := (h0.call hb).all))
  exact bodyPost_ret (v := .agg #[.int .u8 2, .int .u64 (tn d : Nat), .string ⟨#[]⟩, .slice none 0 0]) (by simp [results, Tryd.results100, go_sem, c0, c1, c2, c3]) rfl ⟨by rw [hv]; rfl, below_set4 hb1 (Nat.le_refl _) _ _ _ _⟩
set_option maxHeartbeats 1000000 in
theorem plain_7 {B : Nat} {A : Option Addr} {n cc c : Nat} {d : List Nat} {w : World} (hr : Rd .u8 256 w B A n d) (hB : B ≤ w.heap.size) (hk : kof c = 7) :
    Calls Tryd.prog 100 #[.int .u8 (c : Int), .slice A n cc] w (GivesP (plainV c d) w) := by
  have hv : plainV c d = .mk 7 (sgw (tn d) n) ⟨#[]⟩ [] := by unfold plainV; rw [if_neg (by omega), if_neg (by omega), if_pos (by omega), hk, hr.len]
  have h0 := Box.new w (.int .u8 0) (.int .u64 0) (.string ⟨#[]⟩) (.slice none 0 0)
  have hb0 : Below w.heap.size w (w.alloc (.cells #[.int .u8 0, .int .u64 0, .string ⟨#[]⟩, .slice none 0 0] 25)) := (Below.refl _ _).alloc (Nat.le_refl _) _
  have hR := hr.alloc hB (.cells #[.int .u8 0, .int .u64 0, .string ⟨#[]⟩, .slice none 0 0] 25)
  have hst := run_str cc hR
  have hK := Lib.hid hk
  have hl := hr.len
  have HL := Lib.hid hl
  clear hk hl
  go_enter Tryd.func100, Tryd.ntmps100
  go_wp2_with (first
    | (go_at_call 103; refine (tell_any B A n cc d _ hR).mono ?_; rintro e w' ⟨⟨p, rfl⟩, rfl⟩)
    | (go_at_call 85; refine (kind_any c _).mono ?_; rintro e w' ⟨rfl, rfl⟩; rw [hK.out])
    | (go_at_call 47; refine (signed_any (tn d) n _).mono ?_; rintro e w' ⟨rfl, rfl⟩)
    | (go_at_call 70; refine (null_any _).mono ?_; rintro e w1 ⟨rfl, hb⟩; have hb1 := below_next hb0 hb; obtain ⟨c0, c1, c2, c3, f⟩ := (h0.call hb).all)
    | (go_at_call 26; refine (number_any 7 (sgw (tn d) n) _).mono ?_; rintro e w1 ⟨rfl, hb⟩; have hb1 := below_next hb0 hb; obtain ⟨c0, c1, c2, c3, f⟩ := (h0.call hb).all)
    | (go_at_call 23; refine (text_any' 7 (sb d) _).mono ?_; rintro e w1 ⟨rfl, hb⟩; have hb1 := below_next hb0 hb; obtain ⟨c0, c1, c2, c3, f⟩ := (h0.call hb).all))
  exact bodyPost_ret (v := .agg #[.int .u8 7, .int .u64 (sgw (tn d) n : Nat), .string ⟨#[]⟩, .slice none 0 0]) (by simp [results, Tryd.results100, go_sem, c0, c1, c2, c3]) rfl ⟨by rw [hv]; rfl, below_set4 hb1 (Nat.le_refl _) _ _ _ _⟩
set_option maxHeartbeats 1000000 in
theorem plain_8 {B : Nat} {A : Option Addr} {n cc c : Nat} {d : List Nat} {w : World} (hr : Rd .u8 256 w B A n d) (hB : B ≤ w.heap.size) (hk : kof c = 8) :
    Calls Tryd.prog 100 #[.int .u8 (c : Int), .slice A n cc] w (GivesP (plainV c d) w) := by
  have hv : plainV c d = .mk 8 (sgw (tn d) n) ⟨#[]⟩ [] := by unfold plainV; rw [if_neg (by omega), if_neg (by omega), if_pos (by omega), hk, hr.len]
  have h0 := Box.new w (.int .u8 0) (.int .u64 0) (.string ⟨#[]⟩) (.slice none 0 0)
  have hb0 : Below w.heap.size w (w.alloc (.cells #[.int .u8 0, .int .u64 0, .string ⟨#[]⟩, .slice none 0 0] 25)) := (Below.refl _ _).alloc (Nat.le_refl _) _
  have hR := hr.alloc hB (.cells #[.int .u8 0, .int .u64 0, .string ⟨#[]⟩, .slice none 0 0] 25)
  have hst := run_str cc hR
  have hK := Lib.hid hk
  have hl := hr.len
  have HL := Lib.hid hl
  clear hk hl
  go_enter Tryd.func100, Tryd.ntmps100
  go_wp2_with (first
    | (go_at_call 103; refine (tell_any B A n cc d _ hR).mono ?_; rintro e w' ⟨⟨p, rfl⟩, rfl⟩)
    | (go_at_call 85; refine (kind_any c _).mono ?_; rintro e w' ⟨rfl, rfl⟩; rw [hK.out])
    | (go_at_call 47; refine (signed_any (tn d) n _).mono ?_; rintro e w' ⟨rfl, rfl⟩)
    | (go_at_call 70; refine (null_any _).mono ?_; rintro e w1 ⟨rfl, hb⟩; have hb1 := below_next hb0 hb; obtain ⟨c0, c1, c2, c3, f⟩ := (h0.call hb).all)
    | (go_at_call 26; refine (number_any 8 (sgw (tn d) n) _).mono ?_; rintro e w1 ⟨rfl, hb⟩; have hb1 := below_next hb0 hb; obtain ⟨c0, c1, c2, c3, f⟩ := (h0.call hb).all)
    | (go_at_call 23; refine (text_any' 8 (sb d) _).mono ?_; rintro e w1 ⟨rfl, hb⟩; have hb1 := below_next hb0 hb; obtain ⟨c0, c1, c2, c3, f⟩ := (h0.call hb).all))
  exact bodyPost_ret (v := .agg #[.int .u8 8, .int .u64 (sgw (tn d) n : Nat), .string ⟨#[]⟩, .slice none 0 0]) (by simp [results, Tryd.results100, go_sem, c0, c1, c2, c3]) rfl ⟨by rw [hv]; rfl, below_set4 hb1 (Nat.le_refl _) _ _ _ _⟩
set_option maxHeartbeats 1000000 in
theorem plain_9 {B : Nat} {A : Option Addr} {n cc c : Nat} {d : List Nat} {w : World} (hr : Rd .u8 256 w B A n d) (hB : B ≤ w.heap.size) (hk : kof c = 9) :
    Calls Tryd.prog 100 #[.int .u8 (c : Int), .slice A n cc] w (GivesP (plainV c d) w) := by
  have hv : plainV c d = .mk 9 (sgw (tn d) n) ⟨#[]⟩ [] := by unfold plainV; rw [if_neg (by omega), if_neg (by omega), if_pos (by omega), hk, hr.len]
  have h0 := Box.new w (.int .u8 0) (.int .u64 0) (.string ⟨#[]⟩) (.slice none 0 0)
  have hb0 : Below w.heap.size w (w.alloc (.cells #[.int .u8 0, .int .u64 0, .string ⟨#[]⟩, .slice none 0 0] 25)) := (Below.refl _ _).alloc (Nat.le_refl _) _
  have hR := hr.alloc hB (.cells #[.int .u8 0, .int .u64 0, .string ⟨#[]⟩, .slice none 0 0] 25)
  have hst := run_str cc hR
  have hK := Lib.hid hk
  have hl := hr.len
  have HL := Lib.hid hl
  clear hk hl
  go_enter Tryd.func100, Tryd.ntmps100
  go_wp2_with (first
    | (go_at_call 103; refine (tell_any B A n cc d _ hR).mono ?_; rintro e w' ⟨⟨p, rfl⟩, rfl⟩)
    | (go_at_call 85; refine (kind_any c _).mono ?_; rintro e w' ⟨rfl, rfl⟩; rw [hK.out])
    | (go_at_call 47; refine (signed_any (tn d) n _).mono ?_; rintro e w' ⟨rfl, rfl⟩)
    | (go_at_call 70; refine (null_any _).mono ?_; rintro e w1 ⟨rfl, hb⟩; have hb1 := below_next hb0 hb; obtain ⟨c0, c1, c2, c3, f⟩ := (h0.call hb).all)
    | (go_at_call 26; refine (number_any 9 (sgw (tn d) n) _).mono ?_; rintro e w1 ⟨rfl, hb⟩; have hb1 := below_next hb0 hb; obtain ⟨c0, c1, c2, c3, f⟩ := (h0.call hb).all)
    | (go_at_call 23; refine (text_any' 9 (sb d) _).mono ?_; rintro e w1 ⟨rfl, hb⟩; have hb1 := below_next hb0 hb; obtain ⟨c0, c1, c2, c3, f⟩ := (h0.call hb).all))
  exact bodyPost_ret (v := .agg #[.int .u8 9, .int .u64 (sgw (tn d) n : Nat), .string ⟨#[]⟩, .slice none 0 0]) (by simp [results, Tryd.results100, go_sem, c0, c1, c2, c3]) rfl ⟨by rw [hv]; rfl, below_set4 hb1 (Nat.le_refl _) _ _ _ _⟩
set_option maxHeartbeats 1000000 in
theorem plain_10 {B : Nat} {A : Option Addr} {n cc c : Nat} {d : List Nat} {w : World} (hr : Rd .u8 256 w B A n d) (hB : B ≤ w.heap.size) (hk : kof c = 10) :
    Calls Tryd.prog 100 #[.int .u8 (c : Int), .slice A n cc] w (GivesP (plainV c d) w) := by
  have hv : plainV c d = .mk 10 (sgw (tn d) n) ⟨#[]⟩ [] := by unfold plainV; rw [if_neg (by omega), if_neg (by omega), if_pos (by omega), hk, hr.len]
  have h0 := Box.new w (.int .u8 0) (.int .u64 0) (.string ⟨#[]⟩) (.slice none 0 0)
  have hb0 : Below w.heap.size w (w.alloc (.cells #[.int .u8 0, .int .u64 0, .string ⟨#[]⟩, .slice none 0 0] 25)) := (Below.refl _ _).alloc (Nat.le_refl _) _
  have hR := hr.alloc hB (.cells #[.int .u8 0, .int .u64 0, .string ⟨#[]⟩, .slice none 0 0] 25)
  have hst := run_str cc hR
  have hK := Lib.hid hk
  have hl := hr.len
  have HL := Lib.hid hl
  clear hk hl
  go_enter Tryd.func100, Tryd.ntmps100
  go_wp2_with (first
    | (go_at_call 103; refine (tell_any B A n cc d _ hR).mono ?_; rintro e w' ⟨⟨p, rfl⟩, rfl⟩)
    | (go_at_call 85; refine (kind_any c _).mono ?_; rintro e w' ⟨rfl, rfl⟩; rw [hK.out])
    | (go_at_call 47; refine (signed_any (tn d) n _).mono ?_; rintro e w' ⟨rfl, rfl⟩)
    | (go_at_call 70; refine (null_any _).mono ?_; rintro e w1 ⟨rfl, hb⟩; have hb1 := below_next hb0 hb; obtain ⟨c0, c1, c2, c3, f⟩ := (h0.call hb).all)
    | (go_at_call 26; refine (number_any 10 (sgw (tn d) n) _).mono ?_; rintro e w1 ⟨rfl, hb⟩; have hb1 := below_next hb0 hb; obtain ⟨c0, c1, c2, c3, f⟩ := (h0.call hb).all)
    | (go_at_call 23; refine (text_any' 10 (sb d) _).mono ?_; rintro e w1 ⟨rfl, hb⟩; have hb1 := below_next hb0 hb; obtain ⟨c0, c1, c2, c3, f⟩ := (h0.call hb).all))
  exact bodyPost_ret (v := .agg #[.int .u8 10, .int .u64 (sgw (tn d) n : Nat), .string ⟨#[]⟩, .slice none 0 0]) (by simp [results, Tryd.results100, go_sem, c0, c1, c2, c3]) rfl ⟨by rw [hv]; rfl, below_set4 hb1 (Nat.le_refl _) _ _ _ _⟩
set_option maxHeartbeats 1000000 in
theorem plain_14 {B : Nat} {A : Option Addr} {n cc c : Nat} {d : List Nat} {w : World} (hr : Rd .u8 256 w B A n d) (hB : B ≤ w.heap.size) (hk : kof c = 14) :
    Calls Tryd.prog 100 #[.int .u8 (c : Int), .slice A n cc] w (GivesP (plainV c d) w) := by
  have hv : plainV c d = .mk 14 (sgw (tn d) n) ⟨#[]⟩ [] := by unfold plainV; rw [if_neg (by omega), if_neg (by omega), if_pos (by omega), hk, hr.len]
  have h0 := Box.new w (.int .u8 0) (.int .u64 0) (.string ⟨#[]⟩) (.slice none 0 0)
  have hb0 : Below w.heap.size w (w.alloc (.cells #[.int .u8 0, .int .u64 0, .string ⟨#[]⟩, .slice none 0 0] 25)) := (Below.refl _ _).alloc (Nat.le_refl _) _
  have hR := hr.alloc hB (.cells #[.int .u8 0, .int .u64 0, .string ⟨#[]⟩, .slice none 0 0] 25)
  have hst := run_str cc hR
  have hK := Lib.hid hk
  have hl := hr.len
  have HL := Lib.hid hl
  clear hk hl
  go_enter Tryd.func100, Tryd.ntmps100
  go_wp2_with (first
    | (go_at_call 103; refine (tell_any B A n cc d _ hR).mono ?_; rintro e w' ⟨⟨p, rfl⟩, rfl⟩)
    | (go_at_call 85; refine (kind_any c _).mono ?_; rintro e w' ⟨rfl, rfl⟩; rw [hK.out])
    | (go_at_call 47; refine (signed_any (tn d) n _).mono ?_; rintro e w' ⟨rfl, rfl⟩)
    | (go_at_call 70; refine (null_any _).mono ?_; rintro e w1 ⟨rfl, hb⟩; have hb1 := below_next hb0 hb; obtain ⟨c0, c1, c2, c3, f⟩ := (h0.call hb).all)
    | (go_at_call 26; refine (number_any 14 (sgw (tn d) n) _).mono ?_; rintro e w1 ⟨rfl, hb⟩; have hb1 := below_next hb0 hb; obtain ⟨c0, c1, c2, c3, f⟩ := (h0.call hb).all)
    | (go_at_call 23; refine (text_any' 14 (sb d) _).mono ?_; rintro e w1 ⟨rfl, hb⟩; have hb1 := below_next hb0 hb; obtain ⟨c0, c1, c2, c3, f⟩ := (h0.call hb).all))
  exact bodyPost_ret (v := .agg #[.int .u8 14, .int .u64 (sgw (tn d) n : Nat), .string ⟨#[]⟩, .slice none 0 0]) (by simp [results, Tryd.results100, go_sem, c0, c1, c2, c3]) rfl ⟨by rw [hv]; rfl, below_set4 hb1 (Nat.le_refl _) _ _ _ _⟩
set_option maxHeartbeats 1000000 in
theorem plain_15 {B : Nat} {A : Option Addr} {n cc c : Nat} {d : List Nat} {w : World} (hr : Rd .u8 256 w B A n d) (hB : B ≤ w.heap.size) (hk : kof c = 15) :
    Calls Tryd.prog 100 #[.int .u8 (c : Int), .slice A n cc] w (GivesP (plainV c d) w) := by
  have hv : plainV c d = .mk 15 0 (sb d) [] := by unfold plainV; rw [if_neg (by omega), if_neg (by omega), if_neg (by omega), if_pos (by omega), hk]
  have h0 := Box.new w (.int .u8 0) (.int .u64 0) (.string ⟨#[]⟩) (.slice none 0 0)
  have hb0 : Below w.heap.size w (w.alloc (.cells #[.int .u8 0, .int .u64 0, .string ⟨#[]⟩, .slice none 0 0] 25)) := (Below.refl _ _).alloc (Nat.le_refl _) _
  have hR := hr.alloc hB (.cells #[.int .u8 0, .int .u64 0, .string ⟨#[]⟩, .slice none 0 0] 25)
  have hst := run_str cc hR
  have hK := Lib.hid hk
  have hl := hr.len
  have HL := Lib.hid hl
  clear hk hl
  go_enter Tryd.func100, Tryd.ntmps100
  go_wp2_with (first
    | (go_at_call 103; refine (tell_any B A n cc d _ hR).mono ?_; rintro e w' ⟨⟨p, rfl⟩, rfl⟩)
    | (go_at_call 85; refine (kind_any c _).mono ?_; rintro e w' ⟨rfl, rfl⟩; rw [hK.out])
    | (go_at_call 47; refine (signed_any (tn d) n _).mono ?_; rintro e w' ⟨rfl, rfl⟩)
    | (go_at_call 70; refine (null_any _).mono ?_; rintro e w1 ⟨rfl, hb⟩; have hb1 := below_next hb0 hb; obtain ⟨c0, c1, c2, c3, f⟩ := (h0.call hb).all)
    | (go_at_call 26; refine (number_any 15 0 _).mono ?_; rintro e w1 ⟨rfl, hb⟩; have hb1 := below_next hb0 hb; obtain ⟨c0, c1, c2, c3, f⟩ := (h0.call hb).all)
    | (go_at_call 23; refine (text_any' 15 (sb d) _).mono ?_; rintro e w1 ⟨rfl, hb⟩; have hb1 := below_next hb0 hb; obtain ⟨c0, c1, c2, c3, f⟩ := (h0.call hb).all))
  exact bodyPost_ret (v := .agg #[.int .u8 15, .int .u64 0, .string (sb d), .slice none 0 0]) (by simp [results, Tryd.results100, go_sem, c0, c1, c2, c3]) rfl ⟨by rw [hv]; rfl, below_set4 hb1 (Nat.le_refl _) _ _ _ _⟩
set_option maxHeartbeats 1000000 in
theorem plain_16 {B : Nat} {A : Option Addr} {n cc c : Nat} {d : List Nat} {w : World} (hr : Rd .u8 256 w B A n d) (hB : B ≤ w.heap.size) (hk : kof c = 16) :
    Calls Tryd.prog 100 #[.int .u8 (c : Int), .slice A n cc] w (GivesP (plainV c d) w) := by
  have hv : plainV c d = .mk 16 0 (sb d) [] := by unfold plainV; rw [if_neg (by omega), if_neg (by omega), if_neg (by omega), if_pos (by omega), hk]
  have h0 := Box.new w (.int .u8 0) (.int .u64 0) (.string ⟨#[]⟩) (.slice none 0 0)
  have hb0 : Below w.heap.size w (w.alloc (.cells #[.int .u8 0, .int .u64 0, .string ⟨#[]⟩, .slice none 0 0] 25)) := (Below.refl _ _).alloc (Nat.le_refl _) _
  have hR := hr.alloc hB (.cells #[.int .u8 0, .int .u64 0, .string ⟨#[]⟩, .slice none 0 0] 25)
  have hst := run_str cc hR
  have hK := Lib.hid hk
  have hl := hr.len
  have HL := Lib.hid hl
  clear hk hl
  go_enter Tryd.func100, Tryd.ntmps100
  go_wp2_with (first
    | (go_at_call 103; refine (tell_any B A n cc d _ hR).mono ?_; rintro e w' ⟨⟨p, rfl⟩, rfl⟩)
    | (go_at_call 85; refine (kind_any c _).mono ?_; rintro e w' ⟨rfl, rfl⟩; rw [hK.out])
    | (go_at_call 47; refine (signed_any (tn d) n _).mono ?_; rintro e w' ⟨rfl, rfl⟩)
    | (go_at_call 70; refine (null_any _).mono ?_; rintro e w1 ⟨rfl, hb⟩; have hb1 := below_next hb0 hb; obtain ⟨c0, c1, c2, c3, f⟩ := (h0.call hb).all)
    | (go_at_call 26; refine (number_any 16 0 _).mono ?_; rintro e w1 ⟨rfl, hb⟩; have hb1 := below_next hb0 hb; obtain ⟨c0, c1, c2, c3, f⟩ := (h0.call hb).all)
    | (go_at_call 23; refine (text_any' 16 (sb d) _).mono ?_; rintro e w1 ⟨rfl, hb⟩; have hb1 := below_next hb0 hb; obtain ⟨c0, c1, c2, c3, f⟩ := (h0.call hb).all))
  exact bodyPost_ret (v := .agg #[.int .u8 16, .int .u64 0, .string (sb d), .slice none 0 0]) (by simp [results, Tryd.results100, go_sem, c0, c1, c2, c3]) rfl ⟨by rw [hv]; rfl, below_set4 hb1 (Nat.le_refl _) _ _ _ _⟩
set_option maxHeartbeats 1000000 in
theorem plain_17 {B : Nat} {A : Option Addr} {n cc c : Nat} {d : List Nat} {w : World} (hr : Rd .u8 256 w B A n d) (hB : B ≤ w.heap.size) (hk : kof c = 17) :
    Calls Tryd.prog 100 #[.int .u8 (c : Int), .slice A n cc] w (GivesP (plainV c d) w) := by
  have hv : plainV c d = .mk 17 0 (sb d) [] := by unfold plainV; rw [if_neg (by omega), if_neg (by omega), if_neg (by omega), if_pos (by omega), hk]
  have h0 := Box.new w (.int .u8 0) (.int .u64 0) (.string ⟨#[]⟩) (.slice none 0 0)
  have hb0 : Below w.heap.size w (w.alloc (.cells #[.int .u8 0, .int .u64 0, .string ⟨#[]⟩, .slice none 0 0] 25)) := (Below.refl _ _).alloc (Nat.le_refl _) _
  have hR := hr.alloc hB (.cells #[.int .u8 0, .int .u64 0, .string ⟨#[]⟩, .slice none 0 0] 25)
  have hst := run_str cc hR
  have hK := Lib.hid hk
  have hl := hr.len
  have HL := Lib.hid hl
  clear hk hl
  go_enter Tryd.func100, Tryd.ntmps100
  go_wp2_with (first
    | (go_at_call 103; refine (tell_any B A n cc d _ hR).mono ?_; rintro e w' ⟨⟨p, rfl⟩, rfl⟩)
    | (go_at_call 85; refine (kind_any c _).mono ?_; rintro e w' ⟨rfl, rfl⟩; rw [hK.out])
    | (go_at_call 47; refine (signed_any (tn d) n _).mono ?_; rintro e w' ⟨rfl, rfl⟩)
    | (go_at_call 70; refine (null_any _).mono ?_; rintro e w1 ⟨rfl, hb⟩; have hb1 := below_next hb0 hb; obtain ⟨c0, c1, c2, c3, f⟩ := (h0.call hb).all)
    | (go_at_call 26; refine (number_any 17 0 _).mono ?_; rintro e w1 ⟨rfl, hb⟩; have hb1 := below_next hb0 hb; obtain ⟨c0, c1, c2, c3, f⟩ := (h0.call hb).all)
    | (go_at_call 23; refine (text_any' 17 (sb d) _).mono ?_; rintro e w1 ⟨rfl, hb⟩; have hb1 := below_next hb0 hb; obtain ⟨c0, c1, c2, c3, f⟩ := (h0.call hb).all))
  exact bodyPost_ret (v := .agg #[.int .u8 17, .int .u64 0, .string (sb d), .slice none 0 0]) (by simp [results, Tryd.results100, go_sem, c0, c1, c2, c3]) rfl ⟨by rw [hv]; rfl, below_set4 hb1 (Nat.le_refl _) _ _ _ _⟩
set_option maxHeartbeats 1000000 in
theorem plain_18 {B : Nat} {A : Option Addr} {n cc c : Nat} {d : List Nat} {w : World} (hr : Rd .u8 256 w B A n d) (hB : B ≤ w.heap.size) (hk : kof c = 18) :
    Calls Tryd.prog 100 #[.int .u8 (c : Int), .slice A n cc] w (GivesP (plainV c d) w) := by
  have hv : plainV c d = .mk 18 0 (sb d) [] := by unfold plainV; rw [if_neg (by omega), if_neg (by omega), if_neg (by omega), if_pos (by omega), hk]
  have h0 := Box.new w (.int .u8 0) (.int .u64 0) (.string ⟨#[]⟩) (.slice none 0 0)
  have hb0 : Below w.heap.size w (w.alloc (.cells #[.int .u8 0, .int .u64 0, .string ⟨#[]⟩, .slice none 0 0] 25)) := (Below.refl _ _).alloc (Nat.le_refl _) _
  have hR := hr.alloc hB (.cells #[.int .u8 0, .int .u64 0, .string ⟨#[]⟩, .slice none 0 0] 25)
  have hst := run_str cc hR
  have hK := Lib.hid hk
  have hl := hr.len
  have HL := Lib.hid hl
  clear hk hl
  go_enter Tryd.func100, Tryd.ntmps100
  go_wp2_with (first
    | (go_at_call 103; refine (tell_any B A n cc d _ hR).mono ?_; rintro e w' ⟨⟨p, rfl⟩, rfl⟩)
    | (go_at_call 85; refine (kind_any c _).mono ?_; rintro e w' ⟨rfl, rfl⟩; rw [hK.out])
    | (go_at_call 47; refine (signed_any (tn d) n _).mono ?_; rintro e w' ⟨rfl, rfl⟩)
    | (go_at_call 70; refine (null_any _).mono ?_; rintro e w1 ⟨rfl, hb⟩; have hb1 := below_next hb0 hb; obtain ⟨c0, c1, c2, c3, f⟩ := (h0.call hb).all)
    | (go_at_call 26; refine (number_any 18 0 _).mono ?_; rintro e w1 ⟨rfl, hb⟩; have hb1 := below_next hb0 hb; obtain ⟨c0, c1, c2, c3, f⟩ := (h0.call hb).all)
    | (go_at_call 23; refine (text_any' 18 (sb d) _).mono ?_; rintro e w1 ⟨rfl, hb⟩; have hb1 := below_next hb0 hb; obtain ⟨c0, c1, c2, c3, f⟩ := (h0.call hb).all))
  exact bodyPost_ret (v := .agg #[.int .u8 18, .int .u64 0, .string (sb d), .slice none 0 0]) (by simp [results, Tryd.results100, go_sem, c0, c1, c2, c3]) rfl ⟨by rw [hv]; rfl, below_set4 hb1 (Nat.le_refl _) _ _ _ _⟩
set_option maxHeartbeats 1000000 in
theorem plain_19 {B : Nat} {A : Option Addr} {n cc c : Nat} {d : List Nat} {w : World} (hr : Rd .u8 256 w B A n d) (hB : B ≤ w.heap.size) (hk : kof c = 19) :
    Calls Tryd.prog 100 #[.int .u8 (c : Int), .slice A n cc] w (GivesP (plainV c d) w) := by
  have hv : plainV c d = .mk 19 0 (sb d) [] := by unfold plainV; rw [if_neg (by omega), if_neg (by omega), if_neg (by omega), if_pos (by omega), hk]
  have h0 := Box.new w (.int .u8 0) (.int .u64 0) (.string ⟨#[]⟩) (.slice none 0 0)
  have hb0 : Below w.heap.size w (w.alloc (.cells #[.int .u8 0, .int .u64 0, .string ⟨#[]⟩, .slice none 0 0] 25)) := (Below.refl _ _).alloc (Nat.le_refl _) _
  have hR := hr.alloc hB (.cells #[.int .u8 0, .int .u64 0, .string ⟨#[]⟩, .slice none 0 0] 25)
  have hst := run_str cc hR
  have hK := Lib.hid hk
  have hl := hr.len
  have HL := Lib.hid hl
  clear hk hl
  go_enter Tryd.func100, Tryd.ntmps100
  go_wp2_with (first
    | (go_at_call 103; refine (tell_any B A n cc d _ hR).mono ?_; rintro e w' ⟨⟨p, rfl⟩, rfl⟩)
    | (go_at_call 85; refine (kind_any c _).mono ?_; rintro e w' ⟨rfl, rfl⟩; rw [hK.out])
    | (go_at_call 47; refine (signed_any (tn d) n _).mono ?_; rintro e w' ⟨rfl, rfl⟩)
    | (go_at_call 70; refine (null_any _).mono ?_; rintro e w1 ⟨rfl, hb⟩; have hb1 := below_next hb0 hb; obtain ⟨c0, c1, c2, c3, f⟩ := (h0.call hb).all)
    | (go_at_call 26; refine (number_any 19 0 _).mono ?_; rintro e w1 ⟨rfl, hb⟩; have hb1 := below_next hb0 hb; obtain ⟨c0, c1, c2, c3, f⟩ := (h0.call hb).all)
    | (go_at_call 23; refine (text_any' 19 (sb d) _).mono ?_; rintro e w1 ⟨rfl, hb⟩; have hb1 := below_next hb0 hb; obtain ⟨c0, c1, c2, c3, f⟩ := (h0.call hb).all))
  exact bodyPost_ret (v := .agg #[.int .u8 19, .int .u64 0, .string (sb d), .slice none 0 0]) (by simp [results, Tryd.results100, go_sem, c0, c1, c2, c3]) rfl ⟨by rw [hv]; rfl, below_set4 hb1 (Nat.le_refl _) _ _ _ _⟩
set_option maxHeartbeats 1000000 in
theorem plain_20 {B : Nat} {A : Option Addr} {n cc c : Nat} {d : List Nat} {w : World} (hr : Rd .u8 256 w B A n d) (hB : B ≤ w.heap.size) (hk : kof c = 20) :
    Calls Tryd.prog 100 #[.int .u8 (c : Int), .slice A n cc] w (GivesP (plainV c d) w) := by
  have hv : plainV c d = .mk 20 0 (sb d) [] := by unfold plainV; rw [if_neg (by omega), if_neg (by omega), if_neg (by omega), if_pos (by omega), hk]
  have h0 := Box.new w (.int .u8 0) (.int .u64 0) (.string ⟨#[]⟩) (.slice none 0 0)
  have hb0 : Below w.heap.size w (w.alloc (.cells #[.int .u8 0, .int .u64 0, .string ⟨#[]⟩, .slice none 0 0] 25)) := (Below.refl _ _).alloc (Nat.le_refl _) _
  have hR := hr.alloc hB (.cells #[.int .u8 0, .int .u64 0, .string ⟨#[]⟩, .slice none 0 0] 25)
  have hst := run_str cc hR
  have hK := Lib.hid hk
  have hl := hr.len
  have HL := Lib.hid hl
  clear hk hl
  go_enter Tryd.func100, Tryd.ntmps100
  go_wp2_with (first
    | (go_at_call 103; refine (tell_any B A n cc d _ hR).mono ?_; rintro e w' ⟨⟨p, rfl⟩, rfl⟩)
    | (go_at_call 85; refine (kind_any c _).mono ?_; rintro e w' ⟨rfl, rfl⟩; rw [hK.out])
    | (go_at_call 47; refine (signed_any (tn d) n _).mono ?_; rintro e w' ⟨rfl, rfl⟩)
    | (go_at_call 70; refine (null_any _).mono ?_; rintro e w1 ⟨rfl, hb⟩; have hb1 := below_next hb0 hb; obtain ⟨c0, c1, c2, c3, f⟩ := (h0.call hb).all)
    | (go_at_call 26; refine (number_any 20 0 _).mono ?_; rintro e w1 ⟨rfl, hb⟩; have hb1 := below_next hb0 hb; obtain ⟨c0, c1, c2, c3, f⟩ := (h0.call hb).all)
    | (go_at_call 23; refine (text_any' 20 (sb d) _).mono ?_; rintro e w1 ⟨rfl, hb⟩; have hb1 := below_next hb0 hb; obtain ⟨c0, c1, c2, c3, f⟩ := (h0.call hb).all))
  exact bodyPost_ret (v := .agg #[.int .u8 20, .int .u64 0, .string (sb d), .slice none 0 0]) (by simp [results, Tryd.results100, go_sem, c0, c1, c2, c3]) rfl ⟨by rw [hv]; rfl, below_set4 hb1 (Nat.le_refl _) _ _ _ _⟩
set_option maxHeartbeats 1000000 in
theorem plain_21 {B : Nat} {A : Option Addr} {n cc c : Nat} {d : List Nat} {w : World} (hr : Rd .u8 256 w B A n d) (hB : B ≤ w.heap.size) (hk : kof c = 21) :
    Calls Tryd.prog 100 #[.int .u8 (c : Int), .slice A n cc] w (GivesP (plainV c d) w) := by
  have hv : plainV c d = .mk 21 0 (sb d) [] := by unfold plainV; rw [if_neg (by omega), if_neg (by omega), if_neg (by omega), if_pos (by omega), hk]
  have h0 := Box.new w (.int .u8 0) (.int .u64 0) (.string ⟨#[]⟩) (.slice none 0 0)
  have hb0 : Below w.heap.size w (w.alloc (.cells #[.int .u8 0, .int .u64 0, .string ⟨#[]⟩, .slice none 0 0] 25)) := (Below.refl _ _).alloc (Nat.le_refl _) _
  have hR := hr.alloc hB (.cells #[.int .u8 0, .int .u64 0, .string ⟨#[]⟩, .slice none 0 0] 25)
  have hst := run_str cc hR
  have hK := Lib.hid hk
  have hl := hr.len
  have HL := Lib.hid hl
  clear hk hl
  go_enter Tryd.func100, Tryd.ntmps100
  go_wp2_with (first
    | (go_at_call 103; refine (tell_any B A n cc d _ hR).mono ?_; rintro e w' ⟨⟨p, rfl⟩, rfl⟩)
    | (go_at_call 85; refine (kind_any c _).mono ?_; rintro e w' ⟨rfl, rfl⟩; rw [hK.out])
    | (go_at_call 47; refine (signed_any (tn d) n _).mono ?_; rintro e w' ⟨rfl, rfl⟩)
    | (go_at_call 70; refine (null_any _).mono ?_; rintro e w1 ⟨rfl, hb⟩; have hb1 := below_next hb0 hb; obtain ⟨c0, c1, c2, c3, f⟩ := (h0.call hb).all)
    | (go_at_call 26; refine (number_any 21 0 _).mono ?_; rintro e w1 ⟨rfl, hb⟩; have hb1 := below_next hb0 hb; obtain ⟨c0, c1, c2, c3, f⟩ := (h0.call hb).all)
    | (go_at_call 23; refine (text_any' 21 (sb d) _).mono ?_; rintro e w1 ⟨rfl, hb⟩; have hb1 := below_next hb0 hb; obtain ⟨c0, c1, c2, c3, f⟩ := (h0.call hb).all))
  exact bodyPost_ret (v := .agg #[.int .u8 21, .int .u64 0, .string (sb d), .slice none 0 0]) (by simp [results, Tryd.results100, go_sem, c0, c1, c2, c3]) rfl ⟨by rw [hv]; rfl, below_set4 hb1 (Nat.le_refl _) _ _ _ _⟩
set_option maxHeartbeats 1000000 in
theorem plain_0 {B : Nat} {A : Option Addr} {n cc c : Nat} {d : List Nat} {w : World} (hr : Rd .u8 256 w B A n d) (hB : B ≤ w.heap.size) (hk : kof c = 0) :
    Calls Tryd.prog 100 #[.int .u8 (c : Int), .slice A n cc] w (GivesP (plainV c d) w) := by
  have hv : plainV c d = .mk 0 (tn d) ⟨#[]⟩ [] := by unfold plainV; rw [if_neg (by omega), if_neg (by omega), if_neg (by omega), if_neg (by omega), hk]
  have h0 := Box.new w (.int .u8 0) (.int .u64 0) (.string ⟨#[]⟩) (.slice none 0 0)
  have hb0 : Below w.heap.size w (w.alloc (.cells #[.int .u8 0, .int .u64 0, .string ⟨#[]⟩, .slice none 0 0] 25)) := (Below.refl _ _).alloc (Nat.le_refl _) _
  have hR := hr.alloc hB (.cells #[.int .u8 0, .int .u64 0, .string ⟨#[]⟩, .slice none 0 0] 25)
  have hst := run_str cc hR
  have hK := Lib.hid hk
  have hl := hr.len
  have HL := Lib.hid hl
  clear hk hl
  go_enter Tryd.func100, Tryd.ntmps100
  go_wp2_with (first
    | (go_at_call 103; refine (tell_any B A n cc d _ hR).mono ?_; rintro e w' ⟨⟨p, rfl⟩, rfl⟩)
    | (go_at_call 85; refine (kind_any c _).mono ?_; rintro e w' ⟨rfl, rfl⟩; rw [hK.out])
    | (go_at_call 47; refine (signed_any (tn d) n _).mono ?_; rintro e w' ⟨rfl, rfl⟩)
    | (go_at_call 70; refine (null_any _).mono ?_; rintro e w1 ⟨rfl, hb⟩; have hb1 := below_next hb0 hb; obtain ⟨c0, c1, c2, c3, f⟩ := (h0.call hb).all)
    | (go_at_call 26; refine (number_any 0 (tn d) _).mono ?_; rintro e w1 ⟨rfl, hb⟩; have hb1 := below_next hb0 hb; obtain ⟨c0, c1, c2, c3, f⟩ := (h0.call hb).all)
    | (go_at_call 23; refine (text_any' 0 (sb d) _).mono ?_; rintro e w1 ⟨rfl, hb⟩; have hb1 := below_next hb0 hb; obtain ⟨c0, c1, c2, c3, f⟩ := (h0.call hb).all))
  exact bodyPost_ret (v := .agg #[.int .u8 0, .int .u64 (tn d : Nat), .string ⟨#[]⟩, .slice none 0 0]) (by simp [results, Tryd.results100, go_sem, c0, c1, c2, c3]) rfl ⟨by rw [hv]; rfl, below_set4 hb1 (Nat.le_refl _) _ _ _ _⟩
set_option maxHeartbeats 1000000 in
theorem plain_3 {B : Nat} {A : Option Addr} {n cc c : Nat} {d : List Nat} {w : World} (hr : Rd .u8 256 w B A n d) (hB : B ≤ w.heap.size) (hk : kof c = 3) :
    Calls Tryd.prog 100 #[.int .u8 (c : Int), .slice A n cc] w (GivesP (plainV c d) w) := by
  have hv : plainV c d = .mk 3 (tn d) ⟨#[]⟩ [] := by unfold plainV; rw [if_neg (by omega), if_neg (by omega), if_neg (by omega), if_neg (by omega), hk]
  have h0 := Box.new w (.int .u8 0) (.int .u64 0) (.string ⟨#[]⟩) (.slice none 0 0)
  have hb0 : Below w.heap.size w (w.alloc (.cells #[.int .u8 0, .int .u64 0, .string ⟨#[]⟩, .slice none 0 0] 25)) := (Below.refl _ _).alloc (Nat.le_refl _) _
  have hR := hr.alloc hB (.cells #[.int .u8 0, .int .u64 0, .string ⟨#[]⟩, .slice none 0 0] 25)
  have hst := run_str cc hR
  have hK := Lib.hid hk
  have hl := hr.len
  have HL := Lib.hid hl
  clear hk hl
  go_enter Tryd.func100, Tryd.ntmps100
  go_wp2_with (first
    | (go_at_call 103; refine (tell_any B A n cc d _ hR).mono ?_; rintro e w' ⟨⟨p, rfl⟩, rfl⟩)
    | (go_at_call 85; refine (kind_any c _).mono ?_; rintro e w' ⟨rfl, rfl⟩; rw [hK.out])
    | (go_at_call 47; refine (signed_any (tn d) n _).mono ?_; rintro e w' ⟨rfl, rfl⟩)
    | (go_at_call 70; refine (null_any _).mono ?_; rintro e w1 ⟨rfl, hb⟩; have hb1 := below_next hb0 hb; obtain ⟨c0, c1, c2, c3, f⟩ := (h0.call hb).all)
    | (go_at_call 26; refine (number_any 3 (tn d) _).mono ?_; rintro e w1 ⟨rfl, hb⟩; have hb1 := below_next hb0 hb; obtain ⟨c0, c1, c2, c3, f⟩ := (h0.call hb).all)
    | (go_at_call 23; refine (text_any' 3 (sb d) _).mono ?_; rintro e w1 ⟨rfl, hb⟩; have hb1 := below_next hb0 hb; obtain ⟨c0, c1, c2, c3, f⟩ := (h0.call hb).all))
  exact bodyPost_ret (v := .agg #[.int .u8 3, .int .u64 (tn d : Nat), .string ⟨#[]⟩, .slice none 0 0]) (by simp [results, Tryd.results100, go_sem, c0, c1, c2, c3]) rfl ⟨by rw [hv]; rfl, below_set4 hb1 (Nat.le_refl _) _ _ _ _⟩
set_option maxHeartbeats 1000000 in
theorem plain_4 {B : Nat} {A : Option Addr} {n cc c : Nat} {d : List Nat} {w : World} (hr : Rd .u8 256 w B A n d) (hB : B ≤ w.heap.size) (hk : kof c = 4) :
    Calls Tryd.prog 100 #[.int .u8 (c : Int), .slice A n cc] w (GivesP (plainV c d) w) := by
  have hv : plainV c d = .mk 4 (tn d) ⟨#[]⟩ [] := by unfold plainV; rw [if_neg (by omega), if_neg (by omega), if_neg (by omega), if_neg (by omega), hk]
  have h0 := Box.new w (.int .u8 0) (.int .u64 0) (.string ⟨#[]⟩) (.slice none 0 0)
  have hb0 : Below w.heap.size w (w.alloc (.cells #[.int .u8 0, .int .u64 0, .string ⟨#[]⟩, .slice none 0 0] 25)) := (Below.refl _ _).alloc (Nat.le_refl _) _
  have hR := hr.alloc hB (.cells #[.int .u8 0, .int .u64 0, .string ⟨#[]⟩, .slice none 0 0] 25)
  have hst := run_str cc hR
  have hK := Lib.hid hk
  have hl := hr.len
  have HL := Lib.hid hl
  clear hk hl
  go_enter Tryd.func100, Tryd.ntmps100
  go_wp2_with (first
    | (go_at_call 103; refine (tell_any B A n cc d _ hR).mono ?_; rintro e w' ⟨⟨p, rfl⟩, rfl⟩)
    | (go_at_call 85; refine (kind_any c _).mono ?_; rintro e w' ⟨rfl, rfl⟩; rw [hK.out])
    | (go_at_call 47; refine (signed_any (tn d) n _).mono ?_; rintro e w' ⟨rfl, rfl⟩)
    | (go_at_call 70; refine (null_any _).mono ?_; rintro e w1 ⟨rfl, hb⟩; have hb1 := below_next hb0 hb; obtain ⟨c0, c1, c2, c3, f⟩ := (h0.call hb).all)
    | (go_at_call 26; refine (number_any 4 (tn d) _).mono ?_; rintro e w1 ⟨rfl, hb⟩; have hb1 := below_next hb0 hb; obtain ⟨c0, c1, c2, c3, f⟩ := (h0.call hb).all)
    | (go_at_call 23; refine (text_any' 4 (sb d) _).mono ?_; rintro e w1 ⟨rfl, hb⟩; have hb1 := below_next hb0 hb; obtain ⟨c0, c1, c2, c3, f⟩ := (h0.call hb).all))
  exact bodyPost_ret (v := .agg #[.int .u8 4, .int .u64 (tn d : Nat), .string ⟨#[]⟩, .slice none 0 0]) (by simp [results, Tryd.results100, go_sem, c0, c1, c2, c3]) rfl ⟨by rw [hv]; rfl, below_set4 hb1 (Nat.le_refl _) _ _ _ _⟩
set_option maxHeartbeats 1000000 in
theorem plain_5 {B : Nat} {A : Option Addr} {n cc c : Nat} {d : List Nat} {w : World} (hr : Rd .u8 256 w B A n d) (hB : B ≤ w.heap.size) (hk : kof c = 5) :
    Calls Tryd.prog 100 #[.int .u8 (c : Int), .slice A n cc] w (GivesP (plainV c d) w) := by
  have hv : plainV c d = .mk 5 (tn d) ⟨#[]⟩ [] := by unfold plainV; rw [if_neg (by omega), if_neg (by omega), if_neg (by omega), if_neg (by omega), hk]
  have h0 := Box.new w (.int .u8 0) (.int .u64 0) (.string ⟨#[]⟩) (.slice none 0 0)
  have hb0 : Below w.heap.size w (w.alloc (.cells #[.int .u8 0, .int .u64 0, .string ⟨#[]⟩, .slice none 0 0] 25)) := (Below.refl _ _).alloc (Nat.le_refl _) _
  have hR := hr.alloc hB (.cells #[.int .u8 0, .int .u64 0, .string ⟨#[]⟩, .slice none 0 0] 25)
  have hst := run_str cc hR
  have hK := Lib.hid hk
  have hl := hr.len
  have HL := Lib.hid hl
  clear hk hl
  go_enter Tryd.func100, Tryd.ntmps100
  go_wp2_with (first
    | (go_at_call 103; refine (tell_any B A n cc d _ hR).mono ?_; rintro e w' ⟨⟨p, rfl⟩, rfl⟩)
    | (go_at_call 85; refine (kind_any c _).mono ?_; rintro e w' ⟨rfl, rfl⟩; rw [hK.out])
    | (go_at_call 47; refine (signed_any (tn d) n _).mono ?_; rintro e w' ⟨rfl, rfl⟩)
    | (go_at_call 70; refine (null_any _).mono ?_; rintro e w1 ⟨rfl, hb⟩; have hb1 := below_next hb0 hb; obtain ⟨c0, c1, c2, c3, f⟩ := (h0.call hb).all)
    | (go_at_call 26; refine (number_any 5 (tn d) _).mono ?_; rintro e w1 ⟨rfl, hb⟩; have hb1 := below_next hb0 hb; obtain ⟨c0, c1, c2, c3, f⟩ := (h0.call hb).all)
    | (go_at_call 23; refine (text_any' 5 (sb d) _).mono ?_; rintro e w1 ⟨rfl, hb⟩; have hb1 := below_next hb0 hb; obtain ⟨c0, c1, c2, c3, f⟩ := (h0.call hb).all))
  exact bodyPost_ret (v := .agg #[.int .u8 5, .int .u64 (tn d : Nat), .string ⟨#[]⟩, .slice none 0 0]) (by simp [results, Tryd.results100, go_sem, c0, c1, c2, c3]) rfl ⟨by rw [hv]; rfl, below_set4 hb1 (Nat.le_refl _) _ _ _ _⟩
set_option maxHeartbeats 1000000 in
theorem plain_6 {B : Nat} {A : Option Addr} {n cc c : Nat} {d : List Nat} {w : World} (hr : Rd .u8 256 w B A n d) (hB : B ≤ w.heap.size) (hk : kof c = 6) :
    Calls Tryd.prog 100 #[.int .u8 (c : Int), .slice A n cc] w (GivesP (plainV c d) w) := by
  have hv : plainV c d = .mk 6 (tn d) ⟨#[]⟩ [] := by unfold plainV; rw [if_neg (by omega), if_neg (by omega), if_neg (by omega), if_neg (by omega), hk]
  have h0 := Box.new w (.int .u8 0) (.int .u64 0) (.string ⟨#[]⟩) (.slice none 0 0)
  have hb0 : Below w.heap.size w (w.alloc (.cells #[.int .u8 0, .int .u64 0, .string ⟨#[]⟩, .slice none 0 0] 25)) := (Below.refl _ _).alloc (Nat.le_refl _) _
  have hR := hr.alloc hB (.cells #[.int .u8 0, .int .u64 0, .string ⟨#[]⟩, .slice none 0 0] 25)
  have hst := run_str cc hR
  have hK := Lib.hid hk
  have hl := hr.len
  have HL := Lib.hid hl
  clear hk hl
  go_enter Tryd.func100, Tryd.ntmps100
  go_wp2_with (first
    | (go_at_call 103; refine (tell_any B A n cc d _ hR).mono ?_; rintro e w' ⟨⟨p, rfl⟩, rfl⟩)
    | (go_at_call 85; refine (kind_any c _).mono ?_; rintro e w' ⟨rfl, rfl⟩; rw [hK.out])
    | (go_at_call 47; refine (signed_any (tn d) n _).mono ?_; rintro e w' ⟨rfl, rfl⟩)
    | (go_at_call 70; refine (null_any _).mono ?_; rintro e w1 ⟨rfl, hb⟩; have hb1 := below_next hb0 hb; obtain ⟨c0, c1, c2, c3, f⟩ := (h0.call hb).all)
    | (go_at_call 26; refine (number_any 6 (tn d) _).mono ?_; rintro e w1 ⟨rfl, hb⟩; have hb1 := below_next hb0 hb; obtain ⟨c0, c1, c2, c3, f⟩ := (h0.call hb).all)
    | (go_at_call 23; refine (text_any' 6 (sb d) _).mono ?_; rintro e w1 ⟨rfl, hb⟩; have hb1 := below_next hb0 hb; obtain ⟨c0, c1, c2, c3, f⟩ := (h0.call hb).all))
  exact bodyPost_ret (v := .agg #[.int .u8 6, .int .u64 (tn d : Nat), .string ⟨#[]⟩, .slice none 0 0]) (by simp [results, Tryd.results100, go_sem, c0, c1, c2, c3]) rfl ⟨by rw [hv]; rfl, below_set4 hb1 (Nat.le_refl _) _ _ _ _⟩
set_option maxHeartbeats 1000000 in
theorem plain_11 {B : Nat} {A : Option Addr} {n cc c : Nat} {d : List Nat} {w : World} (hr : Rd .u8 256 w B A n d) (hB : B ≤ w.heap.size) (hk : kof c = 11) :
    Calls Tryd.prog 100 #[.int .u8 (c : Int), .slice A n cc] w (GivesP (plainV c d) w) := by
  have hv : plainV c d = .mk 11 (tn d) ⟨#[]⟩ [] := by unfold plainV; rw [if_neg (by omega), if_neg (by omega), if_neg (by omega), if_neg (by omega), hk]
  have h0 := Box.new w (.int .u8 0) (.int .u64 0) (.string ⟨#[]⟩) (.slice none 0 0)
  have hb0 : Below w.heap.size w (w.alloc (.cells #[.int .u8 0, .int .u64 0, .string ⟨#[]⟩, .slice none 0 0] 25)) := (Below.refl _ _).alloc (Nat.le_refl _) _
  have hR := hr.alloc hB (.cells #[.int .u8 0, .int .u64 0, .string ⟨#[]⟩, .slice none 0 0] 25)
  have hst := run_str cc hR
  have hK := Lib.hid hk
  have hl := hr.len
  have HL := Lib.hid hl
  clear hk hl
  go_enter Tryd.func100, Tryd.ntmps100
  go_wp2_with (first
    | (go_at_call 103; refine (tell_any B A n cc d _ hR).mono ?_; rintro e w' ⟨⟨p, rfl⟩, rfl⟩)
    | (go_at_call 85; refine (kind_any c _).mono ?_; rintro e w' ⟨rfl, rfl⟩; rw [hK.out])
    | (go_at_call 47; refine (signed_any (tn d) n _).mono ?_; rintro e w' ⟨rfl, rfl⟩)
    | (go_at_call 70; refine (null_any _).mono ?_; rintro e w1 ⟨rfl, hb⟩; have hb1 := below_next hb0 hb; obtain ⟨c0, c1, c2, c3, f⟩ := (h0.call hb).all)
    | (go_at_call 26; refine (number_any 11 (tn d) _).mono ?_; rintro e w1 ⟨rfl, hb⟩; have hb1 := below_next hb0 hb; obtain ⟨c0, c1, c2, c3, f⟩ := (h0.call hb).all)
    | (go_at_call 23; refine (text_any' 11 (sb d) _).mono ?_; rintro e w1 ⟨rfl, hb⟩; have hb1 := below_next hb0 hb; obtain ⟨c0, c1, c2, c3, f⟩ := (h0.call hb).all))
  exact bodyPost_ret (v := .agg #[.int .u8 11, .int .u64 (tn d : Nat), .string ⟨#[]⟩, .slice none 0 0]) (by simp [results, Tryd.results100, go_sem, c0, c1, c2, c3]) rfl ⟨by rw [hv]; rfl, below_set4 hb1 (Nat.le_refl _) _ _ _ _⟩
set_option maxHeartbeats 1000000 in
theorem plain_12 {B : Nat} {A : Option Addr} {n cc c : Nat} {d : List Nat} {w : World} (hr : Rd .u8 256 w B A n d) (hB : B ≤ w.heap.size) (hk : kof c = 12) :
    Calls Tryd.prog 100 #[.int .u8 (c : Int), .slice A n cc] w (GivesP (plainV c d) w) := by
  have hv : plainV c d = .mk 12 (tn d) ⟨#[]⟩ [] := by unfold plainV; rw [if_neg (by omega), if_neg (by omega), if_neg (by omega), if_neg (by omega), hk]
  have h0 := Box.new w (.int .u8 0) (.int .u64 0) (.string ⟨#[]⟩) (.slice none 0 0)
  have hb0 : Below w.heap.size w (w.alloc (.cells #[.int .u8 0, .int .u64 0, .string ⟨#[]⟩, .slice none 0 0] 25)) := (Below.refl _ _).alloc (Nat.le_refl _) _
  have hR := hr.alloc hB (.cells #[.int .u8 0, .int .u64 0, .string ⟨#[]⟩, .slice none 0 0] 25)
  have hst := run_str cc hR
  have hK := Lib.hid hk
  have hl := hr.len
  have HL := Lib.hid hl
  clear hk hl
  go_enter Tryd.func100, Tryd.ntmps100
  go_wp2_with (first
    | (go_at_call 103; refine (tell_any B A n cc d _ hR).mono ?_; rintro e w' ⟨⟨p, rfl⟩, rfl⟩)
    | (go_at_call 85; refine (kind_any c _).mono ?_; rintro e w' ⟨rfl, rfl⟩; rw [hK.out])
    | (go_at_call 47; refine (signed_any (tn d) n _).mono ?_; rintro e w' ⟨rfl, rfl⟩)
    | (go_at_call 70; refine (null_any _).mono ?_; rintro e w1 ⟨rfl, hb⟩; have hb1 := below_next hb0 hb; obtain ⟨c0, c1, c2, c3, f⟩ := (h0.call hb).all)
    | (go_at_call 26; refine (number_any 12 (tn d) _).mono ?_; rintro e w1 ⟨rfl, hb⟩; have hb1 := below_next hb0 hb; obtain ⟨c0, c1, c2, c3, f⟩ := (h0.call hb).all)
    | (go_at_call 23; refine (text_any' 12 (sb d) _).mono ?_; rintro e w1 ⟨rfl, hb⟩; have hb1 := below_next hb0 hb; obtain ⟨c0, c1, c2, c3, f⟩ := (h0.call hb).all))
  exact bodyPost_ret (v := .agg #[.int .u8 12, .int .u64 (tn d : Nat), .string ⟨#[]⟩, .slice none 0 0]) (by simp [results, Tryd.results100, go_sem, c0, c1, c2, c3]) rfl ⟨by rw [hv]; rfl, below_set4 hb1 (Nat.le_refl _) _ _ _ _⟩
set_option maxHeartbeats 1000000 in
theorem plain_13 {B : Nat} {A : Option Addr} {n cc c : Nat} {d : List Nat} {w : World} (hr : Rd .u8 256 w B A n d) (hB : B ≤ w.heap.size) (hk : kof c = 13) :
    Calls Tryd.prog 100 #[.int .u8 (c : Int), .slice A n cc] w (GivesP (plainV c d) w) := by
  have hv : plainV c d = .mk 13 (tn d) ⟨#[]⟩ [] := by unfold plainV; rw [if_neg (by omega), if_neg (by omega), if_neg (by omega), if_neg (by omega), hk]
  have h0 := Box.new w (.int .u8 0) (.int .u64 0) (.string ⟨#[]⟩) (.slice none 0 0)
  have hb0 : Below w.heap.size w (w.alloc (.cells #[.int .u8 0, .int .u64 0, .string ⟨#[]⟩, .slice none 0 0] 25)) := (Below.refl _ _).alloc (Nat.le_refl _) _
  have hR := hr.alloc hB (.cells #[.int .u8 0, .int .u64 0, .string ⟨#[]⟩, .slice none 0 0] 25)
  have hst := run_str cc hR
  have hK := Lib.hid hk
  have hl := hr.len
  have HL := Lib.hid hl
  clear hk hl
  go_enter Tryd.func100, Tryd.ntmps100
  go_wp2_with (first
    | (go_at_call 103; refine (tell_any B A n cc d _ hR).mono ?_; rintro e w' ⟨⟨p, rfl⟩, rfl⟩)
    | (go_at_call 85; refine (kind_any c _).mono ?_; rintro e w' ⟨rfl, rfl⟩; rw [hK.out])
    | (go_at_call 47; refine (signed_any (tn d) n _).mono ?_; rintro e w' ⟨rfl, rfl⟩)
    | (go_at_call 70; refine (null_any _).mono ?_; rintro e w1 ⟨rfl, hb⟩; have hb1 := below_next hb0 hb; obtain ⟨c0, c1, c2, c3, f⟩ := (h0.call hb).all)
    | (go_at_call 26; refine (number_any 13 (tn d) _).mono ?_; rintro e w1 ⟨rfl, hb⟩; have hb1 := below_next hb0 hb; obtain ⟨c0, c1, c2, c3, f⟩ := (h0.call hb).all)
    | (go_at_call 23; refine (text_any' 13 (sb d) _).mono ?_; rintro e w1 ⟨rfl, hb⟩; have hb1 := below_next hb0 hb; obtain ⟨c0, c1, c2, c3, f⟩ := (h0.call hb).all))
  exact bodyPost_ret (v := .agg #[.int .u8 13, .int .u64 (tn d : Nat), .string ⟨#[]⟩, .slice none 0 0]) (by simp [results, Tryd.results100, go_sem, c0, c1, c2, c3]) rfl ⟨by rw [hv]; rfl, below_set4 hb1 (Nat.le_refl _) _ _ _ _⟩
set_option maxHeartbeats 1000000 in
theorem plain_22 {B : Nat} {A : Option Addr} {n cc c : Nat} {d : List Nat} {w : World} (hr : Rd .u8 256 w B A n d) (hB : B ≤ w.heap.size) (hk : kof c = 22) :
    Calls Tryd.prog 100 #[.int .u8 (c : Int), .slice A n cc] w (GivesP (plainV c d) w) := by
  have hv : plainV c d = .mk 22 (tn d) ⟨#[]⟩ [] := by unfold plainV; rw [if_neg (by omega), if_neg (by omega), if_neg (by omega), if_neg (by omega), hk]
  have h0 := Box.new w (.int .u8 0) (.int .u64 0) (.string ⟨#[]⟩) (.slice none 0 0)
  have hb0 : Below w.heap.size w (w.alloc (.cells #[.int .u8 0, .int .u64 0, .string ⟨#[]⟩, .slice none 0 0] 25)) := (Below.refl _ _).alloc (Nat.le_refl _) _
  have hR := hr.alloc hB (.cells #[.int .u8 0, .int .u64 0, .string ⟨#[]⟩, .slice none 0 0] 25)
  have hst := run_str cc hR
  have hK := Lib.hid hk
  have hl := hr.len
  have HL := Lib.hid hl
  clear hk hl
  go_enter Tryd.func100, Tryd.ntmps100
  go_wp2_with (first
    | (go_at_call 103; refine (tell_any B A n cc d _ hR).mono ?_; rintro e w' ⟨⟨p, rfl⟩, rfl⟩)
    | (go_at_call 85; refine (kind_any c _).mono ?_; rintro e w' ⟨rfl, rfl⟩; rw [hK.out])
    | (go_at_call 47; refine (signed_any (tn d) n _).mono ?_; rintro e w' ⟨rfl, rfl⟩)
    | (go_at_call 70; refine (null_any _).mono ?_; rintro e w1 ⟨rfl, hb⟩; have hb1 := below_next hb0 hb; obtain ⟨c0, c1, c2, c3, f⟩ := (h0.call hb).all)
    | (go_at_call 26; refine (number_any 22 (tn d) _).mono ?_; rintro e w1 ⟨rfl, hb⟩; have hb1 := below_next hb0 hb; obtain ⟨c0, c1, c2, c3, f⟩ := (h0.call hb).all)
    | (go_at_call 23; refine (text_any' 22 (sb d) _).mono ?_; rintro e w1 ⟨rfl, hb⟩; have hb1 := below_next hb0 hb; obtain ⟨c0, c1, c2, c3, f⟩ := (h0.call hb).all))
  exact bodyPost_ret (v := .agg #[.int .u8 22, .int .u64 (tn d : Nat), .string ⟨#[]⟩, .slice none 0 0]) (by simp [results, Tryd.results100, go_sem, c0, c1, c2, c3]) rfl ⟨by rw [hv]; rfl, below_set4 hb1 (Nat.le_refl _) _ _ _ _⟩
set_option maxHeartbeats 1000000 in
theorem plain_23 {B : Nat} {A : Option Addr} {n cc c : Nat} {d : List Nat} {w : World} (hr : Rd .u8 256 w B A n d) (hB : B ≤ w.heap.size) (hk : kof c = 23) :
    Calls Tryd.prog 100 #[.int .u8 (c : Int), .slice A n cc] w (GivesP (plainV c d) w) := by
  have hv : plainV c d = .mk 23 (tn d) ⟨#[]⟩ [] := by unfold plainV; rw [if_neg (by omega), if_neg (by omega), if_neg (by omega), if_neg (by omega), hk]
  have h0 := Box.new w (.int .u8 0) (.int .u64 0) (.string ⟨#[]⟩) (.slice none 0 0)
  have hb0 : Below w.heap.size w (w.alloc (.cells #[.int .u8 0, .int .u64 0, .string ⟨#[]⟩, .slice none 0 0] 25)) := (Below.refl _ _).alloc (Nat.le_refl _) _
  have hR := hr.alloc hB (.cells #[.int .u8 0, .int .u64 0, .string ⟨#[]⟩, .slice none 0 0] 25)
  have hst := run_str cc hR
  have hK := Lib.hid hk
  have hl := hr.len
  have HL := Lib.hid hl
  clear hk hl
  go_enter Tryd.func100, Tryd.ntmps100
  go_wp2_with (first
    | (go_at_call 103; refine (tell_any B A n cc d _ hR).mono ?_; rintro e w' ⟨⟨p, rfl⟩, rfl⟩)
    | (go_at_call 85; refine (kind_any c _).mono ?_; rintro e w' ⟨rfl, rfl⟩; rw [hK.out])
    | (go_at_call 47; refine (signed_any (tn d) n _).mono ?_; rintro e w' ⟨rfl, rfl⟩)
    | (go_at_call 70; refine (null_any _).mono ?_; rintro e w1 ⟨rfl, hb⟩; have hb1 := below_next hb0 hb; obtain ⟨c0, c1, c2, c3, f⟩ := (h0.call hb).all)
    | (go_at_call 26; refine (number_any 23 (tn d) _).mono ?_; rintro e w1 ⟨rfl, hb⟩; have hb1 := below_next hb0 hb; obtain ⟨c0, c1, c2, c3, f⟩ := (h0.call hb).all)
    | (go_at_call 23; refine (text_any' 23 (sb d) _).mono ?_; rintro e w1 ⟨rfl, hb⟩; have hb1 := below_next hb0 hb; obtain ⟨c0, c1, c2, c3, f⟩ := (h0.call hb).all))
  exact bodyPost_ret (v := .agg #[.int .u8 23, .int .u64 (tn d : Nat), .string ⟨#[]⟩, .slice none 0 0]) (by simp [results, Tryd.results100, go_sem, c0, c1, c2, c3]) rfl ⟨by rw [hv]; rfl, below_set4 hb1 (Nat.le_refl _) _ _ _ _⟩
set_option maxHeartbeats 1000000 in
theorem plain_24 {B : Nat} {A : Option Addr} {n cc c : Nat} {d : List Nat} {w : World} (hr : Rd .u8 256 w B A n d) (hB : B ≤ w.heap.size) (hk : kof c = 24) :
    Calls Tryd.prog 100 #[.int .u8 (c : Int), .slice A n cc] w (GivesP (plainV c d) w) := by
  have hv : plainV c d = .mk 24 (tn d) ⟨#[]⟩ [] := by unfold plainV; rw [if_neg (by omega), if_neg (by omega), if_neg (by omega), if_neg (by omega), hk]
  have h0 := Box.new w (.int .u8 0) (.int .u64 0) (.string ⟨#[]⟩) (.slice none 0 0)
  have hb0 : Below w.heap.size w (w.alloc (.cells #[.int .u8 0, .int .u64 0, .string ⟨#[]⟩, .slice none 0 0] 25)) := (Below.refl _ _).alloc (Nat.le_refl _) _
  have hR := hr.alloc hB (.cells #[.int .u8 0, .int .u64 0, .string ⟨#[]⟩, .slice none 0 0] 25)
  have hst := run_str cc hR
  have hK := Lib.hid hk
  have hl := hr.len
  have HL := Lib.hid hl
  clear hk hl
  go_enter Tryd.func100, Tryd.ntmps100
  go_wp2_with (first
    | (go_at_call 103; refine (tell_any B A n cc d _ hR).mono ?_; rintro e w' ⟨⟨p, rfl⟩, rfl⟩)
    | (go_at_call 85; refine (kind_any c _).mono ?_; rintro e w' ⟨rfl, rfl⟩; rw [hK.out])
    | (go_at_call 47; refine (signed_any (tn d) n _).mono ?_; rintro e w' ⟨rfl, rfl⟩)
    | (go_at_call 70; refine (null_any _).mono ?_; rintro e w1 ⟨rfl, hb⟩; have hb1 := below_next hb0 hb; obtain ⟨c0, c1, c2, c3, f⟩ := (h0.call hb).all)
    | (go_at_call 26; refine (number_any 24 (tn d) _).mono ?_; rintro e w1 ⟨rfl, hb⟩; have hb1 := below_next hb0 hb; obtain ⟨c0, c1, c2, c3, f⟩ := (h0.call hb).all)
    | (go_at_call 23; refine (text_any' 24 (sb d) _).mono ?_; rintro e w1 ⟨rfl, hb⟩; have hb1 := below_next hb0 hb; obtain ⟨c0, c1, c2, c3, f⟩ := (h0.call hb).all))
  exact bodyPost_ret (v := .agg #[.int .u8 24, .int .u64 (tn d : Nat), .string ⟨#[]⟩, .slice none 0 0]) (by simp [results, Tryd.results100, go_sem, c0, c1, c2, c3]) rfl ⟨by rw [hv]; rfl, below_set4 hb1 (Nat.le_refl _) _ _ _ _⟩
theorem plain_any {B : Nat} {A : Option Addr} {n cc c : Nat} {d : List Nat} {w : World} (hr : Rd .u8 256 w B A n d) (hB : B ≤ w.heap.size) :
    Calls Tryd.prog 100 #[.int .u8 (c : Int), .slice A n cc] w (GivesP (plainV c d) w) := by
  have hk := kof_le c
  obtain h | h | h | h | h | h | h | h | h | h | h | h | h | h | h | h | h | h | h | h | h | h | h | h | h : kof c = 0 ∨ kof c = 1 ∨ kof c = 2 ∨ kof c = 3 ∨ kof c = 4 ∨ kof c = 5 ∨ kof c = 6 ∨ kof c = 7 ∨ kof c = 8 ∨ kof c = 9 ∨ kof c = 10 ∨ kof c = 11 ∨ kof c = 12 ∨ kof c = 13 ∨ kof c = 14 ∨ kof c = 15 ∨ kof c = 16 ∨ kof c = 17 ∨ kof c = 18 ∨ kof c = 19 ∨ kof c = 20 ∨ kof c = 21 ∨ kof c = 22 ∨ kof c = 23 ∨ kof c = 24 := by omega
  · exact plain_0 hr hB h
  · exact plain_1 hr hB h
  · by_cases hc : c = 65
    · exact plain_2t hr hB h hc
    · exact plain_2f hr hB h hc
  · exact plain_3 hr hB h
  · exact plain_4 hr hB h
  · exact plain_5 hr hB h
  · exact plain_6 hr hB h
  · exact plain_7 hr hB h
  · exact plain_8 hr hB h
  · exact plain_9 hr hB h
  · exact plain_10 hr hB h
  · exact plain_11 hr hB h
  · exact plain_12 hr hB h
  · exact plain_13 hr hB h
  · exact plain_14 hr hB h
  · exact plain_15 hr hB h
  · exact plain_16 hr hB h
  · exact plain_17 hr hB h
  · exact plain_18 hr hB h
  · exact plain_19 hr hB h
  · exact plain_20 hr hB h
  · exact plain_21 hr hB h
  · exact plain_22 hr hB h
  · exact plain_23 hr hB h
  · exact plain_24 hr hB h
theorem plain_kids (c : Nat) (d : List Nat) : (plainV c d).kids = [] := by
  unfold plainV
  (repeat' split) <;> rfl
end Go.Proofs.YtikjnbognjicdaaDoor.Dec
