/-
  Contracts of decode's tables: a code's kind, how many bytes tell its size, how many its data have. For every byte.
-/
import Derived.Test.YtikjnbognjicdaaDoorDcr
namespace Go.Proofs.YtikjnbognjicdaaDoor.Dec
set_option maxRecDepth 100000
open Go.RowKit Go.Proofs.YtikjnbognjicdaaDoor.Utf Go.Proofs.YtikjnbognjicdaaDoor.Val V

set_option maxHeartbeats 4000000 in
theorem only_any (c : Nat) (w : World) : Calls Tryd.prog 101 #[.int .u8 (c : Int)] w fun e w' => e = .returned (.int .u8 (kof2 c : Nat)) ∧ w' = w := by
  by_cases h80 : c = 80
  · subst h80
    go_enter Tryd.func101, Tryd.ntmps101
    go_wp2
    go_ret
    exact ⟨rfl, rfl⟩
  by_cases h96 : c = 96
  · subst h96
    go_enter Tryd.func101, Tryd.ntmps101
    go_wp2
    go_ret
    exact ⟨rfl, rfl⟩
  by_cases h81 : c = 81
  · subst h81
    go_enter Tryd.func101, Tryd.ntmps101
    go_wp2
    go_ret
    exact ⟨rfl, rfl⟩
  by_cases h97 : c = 97
  · subst h97
    go_enter Tryd.func101, Tryd.ntmps101
    go_wp2
    go_ret
    exact ⟨rfl, rfl⟩
  by_cases h114 : c = 114
  · subst h114
    go_enter Tryd.func101, Tryd.ntmps101
    go_wp2
    go_ret
    exact ⟨rfl, rfl⟩
  by_cases h130 : c = 130
  · subst h130
    go_enter Tryd.func101, Tryd.ntmps101
    go_wp2
    go_ret
    exact ⟨rfl, rfl⟩
  by_cases h115 : c = 115
  · subst h115
    go_enter Tryd.func101, Tryd.ntmps101
    go_wp2
    go_ret
    exact ⟨rfl, rfl⟩
  by_cases h131 : c = 131
  · subst h131
    go_enter Tryd.func101, Tryd.ntmps101
    go_wp2
    go_ret
    exact ⟨rfl, rfl⟩
  by_cases h152 : c = 152
  · subst h152
    go_enter Tryd.func101, Tryd.ntmps101
    go_wp2
    go_ret
    exact ⟨rfl, rfl⟩
  by_cases h116 : c = 116
  · subst h116
    go_enter Tryd.func101, Tryd.ntmps101
    go_wp2
    go_ret
    exact ⟨rfl, rfl⟩
  by_cases h132 : c = 132
  · subst h132
    go_enter Tryd.func101, Tryd.ntmps101
    go_wp2
    go_ret
    exact ⟨rfl, rfl⟩
  by_cases h148 : c = 148
  · subst h148
    go_enter Tryd.func101, Tryd.ntmps101
    go_wp2
    go_ret
    exact ⟨rfl, rfl⟩
  have hk : kof2 c = 0 := by
    unfold kof2
    rw [if_neg h80, if_neg h96, if_neg h81, if_neg h97, if_neg h114, if_neg h130, if_neg h115, if_neg h131, if_neg h152, if_neg h116, if_neg h132, if_neg h148]
  rw [hk]
  have d80 : ((c : Int) == 80) = false := by simp; omega
  have d96 : ((c : Int) == 96) = false := by simp; omega
  have d81 : ((c : Int) == 81) = false := by simp; omega
  have d97 : ((c : Int) == 97) = false := by simp; omega
  have d114 : ((c : Int) == 114) = false := by simp; omega
  have d130 : ((c : Int) == 130) = false := by simp; omega
  have d115 : ((c : Int) == 115) = false := by simp; omega
  have d131 : ((c : Int) == 131) = false := by simp; omega
  have d152 : ((c : Int) == 152) = false := by simp; omega
  have d116 : ((c : Int) == 116) = false := by simp; omega
  have d132 : ((c : Int) == 132) = false := by simp; omega
  have d148 : ((c : Int) == 148) = false := by simp; omega
  clear hk h80 h96 h81 h97 h114 h130 h115 h131 h152 h116 h132 h148
  go_enter Tryd.func101, Tryd.ntmps101
  go_wp2
  go_ret
  exact ⟨rfl, rfl⟩
set_option maxHeartbeats 4000000 in
theorem kind_any (c : Nat) (w : World) : Calls Tryd.prog 85 #[.int .u8 (c : Int)] w fun e w' => e = .returned (.int .u8 (kof c : Nat)) ∧ w' = w := by
  by_cases h64 : c = 64
  · subst h64
    go_enter Tryd.func85, Tryd.ntmps85
    go_wp2
    go_ret
    exact ⟨rfl, rfl⟩
  by_cases h65 : c = 65
  · subst h65
    go_enter Tryd.func85, Tryd.ntmps85
    go_wp2
    go_ret
    exact ⟨rfl, rfl⟩
  by_cases h66 : c = 66
  · subst h66
    go_enter Tryd.func85, Tryd.ntmps85
    go_wp2
    go_ret
    exact ⟨rfl, rfl⟩
  by_cases h86 : c = 86
  · subst h86
    go_enter Tryd.func85, Tryd.ntmps85
    go_wp2
    go_ret
    exact ⟨rfl, rfl⟩
  by_cases h67 : c = 67
  · subst h67
    go_enter Tryd.func85, Tryd.ntmps85
    go_wp2
    go_ret
    exact ⟨rfl, rfl⟩
  by_cases h82 : c = 82
  · subst h82
    go_enter Tryd.func85, Tryd.ntmps85
    go_wp2
    go_ret
    exact ⟨rfl, rfl⟩
  by_cases h112 : c = 112
  · subst h112
    go_enter Tryd.func85, Tryd.ntmps85
    go_wp2
    go_ret
    exact ⟨rfl, rfl⟩
  by_cases h68 : c = 68
  · subst h68
    go_enter Tryd.func85, Tryd.ntmps85
    go_wp2
    go_ret
    exact ⟨rfl, rfl⟩
  by_cases h83 : c = 83
  · subst h83
    go_enter Tryd.func85, Tryd.ntmps85
    go_wp2
    go_ret
    exact ⟨rfl, rfl⟩
  by_cases h128 : c = 128
  · subst h128
    go_enter Tryd.func85, Tryd.ntmps85
    go_wp2
    go_ret
    exact ⟨rfl, rfl⟩
  by_cases h84 : c = 84
  · subst h84
    go_enter Tryd.func85, Tryd.ntmps85
    go_wp2
    go_ret
    exact ⟨rfl, rfl⟩
  by_cases h113 : c = 113
  · subst h113
    go_enter Tryd.func85, Tryd.ntmps85
    go_wp2
    go_ret
    exact ⟨rfl, rfl⟩
  by_cases h85 : c = 85
  · subst h85
    go_enter Tryd.func85, Tryd.ntmps85
    go_wp2
    go_ret
    exact ⟨rfl, rfl⟩
  by_cases h129 : c = 129
  · subst h129
    go_enter Tryd.func85, Tryd.ntmps85
    go_wp2
    go_ret
    exact ⟨rfl, rfl⟩
  by_cases h160 : c = 160
  · subst h160
    go_enter Tryd.func85, Tryd.ntmps85
    go_wp2
    go_ret
    exact ⟨rfl, rfl⟩
  by_cases h176 : c = 176
  · subst h176
    go_enter Tryd.func85, Tryd.ntmps85
    go_wp2
    go_ret
    exact ⟨rfl, rfl⟩
  by_cases h161 : c = 161
  · subst h161
    go_enter Tryd.func85, Tryd.ntmps85
    go_wp2
    go_ret
    exact ⟨rfl, rfl⟩
  by_cases h177 : c = 177
  · subst h177
    go_enter Tryd.func85, Tryd.ntmps85
    go_wp2
    go_ret
    exact ⟨rfl, rfl⟩
  by_cases h163 : c = 163
  · subst h163
    go_enter Tryd.func85, Tryd.ntmps85
    go_wp2
    go_ret
    exact ⟨rfl, rfl⟩
  by_cases h179 : c = 179
  · subst h179
    go_enter Tryd.func85, Tryd.ntmps85
    go_wp2
    go_ret
    exact ⟨rfl, rfl⟩
  by_cases h69 : c = 69
  · subst h69
    go_enter Tryd.func85, Tryd.ntmps85
    go_wp2
    go_ret
    exact ⟨rfl, rfl⟩
  by_cases h192 : c = 192
  · subst h192
    go_enter Tryd.func85, Tryd.ntmps85
    go_wp2
    go_ret
    exact ⟨rfl, rfl⟩
  by_cases h208 : c = 208
  · subst h208
    go_enter Tryd.func85, Tryd.ntmps85
    go_wp2
    go_ret
    exact ⟨rfl, rfl⟩
  by_cases h193 : c = 193
  · subst h193
    go_enter Tryd.func85, Tryd.ntmps85
    go_wp2
    go_ret
    exact ⟨rfl, rfl⟩
  by_cases h209 : c = 209
  · subst h209
    go_enter Tryd.func85, Tryd.ntmps85
    go_wp2
    go_ret
    exact ⟨rfl, rfl⟩
  by_cases h224 : c = 224
  · subst h224
    go_enter Tryd.func85, Tryd.ntmps85
    go_wp2
    go_ret
    exact ⟨rfl, rfl⟩
  by_cases h240 : c = 240
  · subst h240
    go_enter Tryd.func85, Tryd.ntmps85
    go_wp2
    go_ret
    exact ⟨rfl, rfl⟩
  have hk : kof c = kof2 c := by
    unfold kof
    rw [if_neg h64, if_neg h65, if_neg h66, if_neg h86, if_neg h67, if_neg h82, if_neg h112, if_neg h68, if_neg h83, if_neg h128, if_neg h84, if_neg h113, if_neg h85, if_neg h129, if_neg h160, if_neg h176, if_neg h161, if_neg h177, if_neg h163, if_neg h179, if_neg h69, if_neg h192, if_neg h208, if_neg h193, if_neg h209, if_neg h224, if_neg h240]
  rw [hk]
  have d64 : ((c : Int) == 64) = false := by simp; omega
  have d65 : ((c : Int) == 65) = false := by simp; omega
  have d66 : ((c : Int) == 66) = false := by simp; omega
  have d86 : ((c : Int) == 86) = false := by simp; omega
  have d67 : ((c : Int) == 67) = false := by simp; omega
  have d82 : ((c : Int) == 82) = false := by simp; omega
  have d112 : ((c : Int) == 112) = false := by simp; omega
  have d68 : ((c : Int) == 68) = false := by simp; omega
  have d83 : ((c : Int) == 83) = false := by simp; omega
  have d128 : ((c : Int) == 128) = false := by simp; omega
  have d84 : ((c : Int) == 84) = false := by simp; omega
  have d113 : ((c : Int) == 113) = false := by simp; omega
  have d85 : ((c : Int) == 85) = false := by simp; omega
  have d129 : ((c : Int) == 129) = false := by simp; omega
  have d160 : ((c : Int) == 160) = false := by simp; omega
  have d176 : ((c : Int) == 176) = false := by simp; omega
  have d161 : ((c : Int) == 161) = false := by simp; omega
  have d177 : ((c : Int) == 177) = false := by simp; omega
  have d163 : ((c : Int) == 163) = false := by simp; omega
  have d179 : ((c : Int) == 179) = false := by simp; omega
  have d69 : ((c : Int) == 69) = false := by simp; omega
  have d192 : ((c : Int) == 192) = false := by simp; omega
  have d208 : ((c : Int) == 208) = false := by simp; omega
  have d193 : ((c : Int) == 193) = false := by simp; omega
  have d209 : ((c : Int) == 209) = false := by simp; omega
  have d224 : ((c : Int) == 224) = false := by simp; omega
  have d240 : ((c : Int) == 240) = false := by simp; omega
  clear hk h64 h65 h66 h86 h67 h82 h112 h68 h83 h128 h84 h113 h85 h129 h160 h176 h161 h177 h163 h179 h69 h192 h208 h193 h209 h224 h240
  go_enter Tryd.func85, Tryd.ntmps85
  go_wp2_with (go_at_call 101; refine (only_any c w).mono ?_; rintro e w' ⟨rfl, rfl⟩)
  all_goals first | (go_ret; exact ⟨rfl, rfl⟩) | skip
set_option maxHeartbeats 4000000 in
theorem size_any (c : Nat) (w : World) : Calls Tryd.prog 87 #[.int .u8 (c : Int)] w fun e w' => e = .returned (.int .u64 (sw c : Nat)) ∧ w' = w := by
  have hq : (c : Int) / 2 ^ 4 = ((c / 16 : Nat) : Int) := by omega
  unfold sw
  obtain ⟨q, hQ⟩ : ∃ q, c / 16 = q := ⟨_, rfl⟩
  rw [hQ] at hq ⊢
  clear hQ
  by_cases h10 : q = 10
  · subst h10
    go_enter Tryd.func87, Tryd.ntmps87
    go_wp2
    go_ret
    exact ⟨rfl, rfl⟩
  by_cases h12 : q = 12
  · subst h12
    go_enter Tryd.func87, Tryd.ntmps87
    go_wp2
    go_ret
    exact ⟨rfl, rfl⟩
  by_cases h14 : q = 14
  · subst h14
    go_enter Tryd.func87, Tryd.ntmps87
    go_wp2
    go_ret
    exact ⟨rfl, rfl⟩
  by_cases h11 : q = 11
  · subst h11
    go_enter Tryd.func87, Tryd.ntmps87
    go_wp2
    go_ret
    exact ⟨rfl, rfl⟩
  by_cases h13 : q = 13
  · subst h13
    go_enter Tryd.func87, Tryd.ntmps87
    go_wp2
    go_ret
    exact ⟨rfl, rfl⟩
  by_cases h15 : q = 15
  · subst h15
    go_enter Tryd.func87, Tryd.ntmps87
    go_wp2
    go_ret
    exact ⟨rfl, rfl⟩
  have d10 : ((q : Int) == 10) = false := by simp; omega
  have d12 : ((q : Int) == 12) = false := by simp; omega
  have d14 : ((q : Int) == 14) = false := by simp; omega
  have d11 : ((q : Int) == 11) = false := by simp; omega
  have d13 : ((q : Int) == 13) = false := by simp; omega
  have d15 : ((q : Int) == 15) = false := by simp; omega
  rw [if_neg (by omega), if_neg (by omega)]
  clear h10 h12 h14 h11 h13 h15
  go_enter Tryd.func87, Tryd.ntmps87
  go_wp2
  go_ret
  exact ⟨rfl, rfl⟩
set_option maxHeartbeats 4000000 in
theorem long_any (c : Nat) (w : World) : Calls Tryd.prog 89 #[.int .u8 (c : Int)] w fun e w' => e = .returned (.int .u64 (lg c : Nat)) ∧ w' = w := by
  have hq : (c : Int) / 2 ^ 4 = ((c / 16 : Nat) : Int) := by omega
  unfold lg
  obtain ⟨q, hQ⟩ : ∃ q, c / 16 = q := ⟨_, rfl⟩
  rw [hQ] at hq ⊢
  clear hQ
  by_cases h5 : q = 5
  · subst h5
    go_enter Tryd.func89, Tryd.ntmps89
    go_wp2
    go_ret
    exact ⟨rfl, rfl⟩
  by_cases h6 : q = 6
  · subst h6
    go_enter Tryd.func89, Tryd.ntmps89
    go_wp2
    go_ret
    exact ⟨rfl, rfl⟩
  by_cases h7 : q = 7
  · subst h7
    go_enter Tryd.func89, Tryd.ntmps89
    go_wp2
    go_ret
    exact ⟨rfl, rfl⟩
  by_cases h8 : q = 8
  · subst h8
    go_enter Tryd.func89, Tryd.ntmps89
    go_wp2
    go_ret
    exact ⟨rfl, rfl⟩
  by_cases h9 : q = 9
  · subst h9
    go_enter Tryd.func89, Tryd.ntmps89
    go_wp2
    go_ret
    exact ⟨rfl, rfl⟩
  have d5 : ((q : Int) == 5) = false := by simp; omega
  have d6 : ((q : Int) == 6) = false := by simp; omega
  have d7 : ((q : Int) == 7) = false := by simp; omega
  have d8 : ((q : Int) == 8) = false := by simp; omega
  have d9 : ((q : Int) == 9) = false := by simp; omega
  rw [if_neg h5, if_neg h6, if_neg h7, if_neg h8, if_neg h9]
  clear h5 h6 h7 h8 h9
  go_enter Tryd.func89, Tryd.ntmps89
  go_wp2
  go_ret
  exact ⟨rfl, rfl⟩
end Go.Proofs.YtikjnbognjicdaaDoor.Dec
