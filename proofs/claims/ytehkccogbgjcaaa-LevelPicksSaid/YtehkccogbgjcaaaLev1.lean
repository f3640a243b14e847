/-
Contracts of the reference's powers of two. No statement is proved here.
-/
import Derived.Test.YtehkccogbgjcaaaRows
import Derived.Test.YtehkccogbgjcaaaLev0
import Derived.Test.YtehkccogbgjcaaaNum
import Derived.IntWalk
namespace Go.Proofs.Ytehkccogbgjcaaa
open Go.RowKit

theorem pow2_step (k : Nat) : (2 : Int) ^ k * 2 = 2 ^ (k + 1) := (Int.pow_succ 2 k).symm
theorem P32_any (n : Nat) (hn : n ≤ 15) (w : World) : Calls Try.prog 71 #[.int .i64 n] w fun e w' => e = .returned (.int .i64 (2 ^ n)) ∧ w = w' := by
  go_enter Try.func71, Try.ntmps71
  go_wp2_with fail
  go_loop [3, 4] (fun a b => ∃ k : Nat, k ≤ n ∧ b = .int .i64 k ∧ a = .int .i64 (2 ^ k)) (fun _ b => n - (intOf b).toNat)
  case atStart => exact ⟨0, Nat.zero_le _, rfl, rfl⟩
  case round =>
    obtain ⟨k, hk, rfl, rfl⟩ := hrel
    have hp := pow15 (n := k) (by omega)
    have hp1 := pow2_step k
    by_cases hlt : k < n
    · have hp2 := pow15 (n := k + 1) (by omega)
      have hw : wrap64 ((2 : Int) ^ k * 2) = 2 ^ (k + 1) := by rw [hp1]; exact IntWalk.wrap64_in _ (by omega)
      obtain ⟨p, h1⟩ : ∃ p, (2 : Int) ^ k = p := ⟨_, rfl⟩
      obtain ⟨q, h2⟩ : ∃ p, (2 : Int) ^ (k + 1) = p := ⟨_, rfl⟩
      rw [h1, h2] at hw
      rw [h1]
      have H2 := Lib.hid h2
      clear h1 h2 hp hp1 hp2
      go_wp2_with fail
      go_round
      case rel => exact ⟨k + 1, by omega, by go_num, by rw [H2.out, ← hw]⟩
      case measure => simp [intOf]; omega
    · obtain rfl : k = n := by omega
      clear hp hp1
      go_wp2_with fail
      go_ret
      exact ⟨rfl, rfl⟩
end Go.Proofs.Ytehkccogbgjcaaa
