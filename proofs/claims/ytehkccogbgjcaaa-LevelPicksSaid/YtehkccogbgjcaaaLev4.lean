/-
Contracts of level's To, and of what it calls. No statement is proved here.
-/
import Derived.Test.YtehkccogbgjcaaaLev1
namespace Go.Proofs.Ytehkccogbgjcaaa
open Go.RowKit

theorem Cut_any (k : Int) (w : World) : Calls Try.prog 72 #[.int .i64 k] w fun e w' => e = .returned (.int .i64 (cutZ k : Nat)) ∧ w = w' := by
  obtain ⟨z, hz⟩ : ∃ z : Int, (cutZ k : Nat) = z := ⟨_, rfl⟩
  have hf : min (max k 0) 15 = z := by rw [← hz]; unfold cutZ; omega
  have i1 := if_max k 0
  have i2 := if_min (max k 0) 15
  rw [hz]
  rw [hf] at i2
  clear hz
  go_enter Try.func72, Try.ntmps72
  go_wp2_with fail
  go_ret
  exact ⟨rfl, rfl⟩
theorem RCut_any (k : Int) (w : World) : Calls Try.prog 74 #[.int .i64 k] w fun e w' => e = .returned (.int .i64 (cutZ k : Nat)) ∧ w = w' := by
  obtain ⟨z, hz⟩ : ∃ z : Int, (cutZ k : Nat) = z := ⟨_, rfl⟩
  have hf : max 0 (min k 15) = z := by rw [← hz]; unfold cutZ; omega
  have i1 := if_min k 15
  have i2 := if_max 0 (min k 15)
  rw [hz]
  rw [hf] at i2
  clear hz
  go_enter Try.func74, Try.ntmps74
  go_wp2_with fail
  go_ret
  exact ⟨rfl, rfl⟩
theorem Off_any (n : Nat) (hn : n ≤ 15) (w : World) : Calls Try.prog 73 #[.int .i64 n] w fun e w' => e = .returned (.int .i64 (32768 * (2 ^ n - 1))) ∧ w = w' := by
  have hp := pow15 hn
  have h1 : wrap64 (2 ^ n) = 2 ^ n := IntWalk.wrap64_in _ (by omega)
  obtain ⟨p, hpp⟩ : ∃ p, (2 : Int) ^ n = p := ⟨_, rfl⟩
  rw [hpp] at h1 hp ⊢
  have h2 : wrap64 (2 ^ n) = p := by rw [hpp]; exact h1
  have h3 : wrap64 (p - 1) = p - 1 := IntWalk.wrap64_in _ (by omega)
  have h4 : wrap64 (32768 * (p - 1)) = 32768 * (p - 1) := IntWalk.wrap64_in _ (by omega)
  go_enter Try.func73, Try.ntmps73
  go_wp2_with fail
  go_ret
  exact ⟨rfl, rfl⟩
def near46 (u : Int) : Prop := -2305843009213693952 ≤ u ∧ u ≤ 2305843009213693952
theorem To_any (u k : Int) (hu : near46 u) (w : World) : Calls Try.prog 45 #[.int .i64 u, .int .i64 k] w fun e w' => e = .returned (.int .i64 (toZ u k)) ∧ w = w' := by
  unfold near46 at hu
  have HC := hide (Cut_any k w)
  have HO := hide (Off_any (cutZ k) (cutZ_le k) w)
  have hp := pow15 (cutZ_le k)
  have hl := cutZ_le k
  obtain ⟨z, hz⟩ : ∃ z, toZ u k = z := ⟨_, rfl⟩
  rw [hz]
  unfold toZ at hz
  obtain ⟨n, hn⟩ : ∃ n, cutZ k = n := ⟨_, rfl⟩
  rw [hn] at HC HO hp hz hl
  obtain ⟨p, hpp⟩ : ∃ p, (2 : Int) ^ n = p := ⟨_, rfl⟩
  rw [hpp] at HO hp hz
  obtain ⟨y, hy⟩ : ∃ y, u - 32768 * (p - 1) = y := ⟨_, rfl⟩
  obtain ⟨x, hx⟩ : ∃ x, 32768 * (p - 1) = x := ⟨_, rfl⟩
  have hw : wrap64 (u - x) = y := by rw [← hx, ← hy]; exact IntWalk.wrap64_in _ (by omega)
  rw [hx] at HO
  rw [hy] at hz
  have h2 : y / p = z := hz
  clear hz hn hy hx hu hp
  go_enter Try.func45, Try.ntmps45
  go_wp2_with fail
  refine HC.out.mono ?_
  rintro e w1 ⟨rfl, rfl⟩
  go_wp2_with fail
  refine HO.out.mono ?_
  rintro e w1 ⟨rfl, rfl⟩
  go_wp2_with fail
  go_ret
  exact ⟨rfl, rfl⟩
end Go.Proofs.Ytehkccogbgjcaaa
