/-
Contracts of the reference's To and From; the chapter's example. No statement is proved here.
-/
import Derived.Test.YtehkccogbgjcaaaLev2
import Derived.Test.YtehkccogbgjcaaaLev4
import Derived.Test.YtehkccogbgjcaaaDown
namespace Go.Proofs.Ytehkccogbgjcaaa
open Go.RowKit

theorem RTo_any (u k : Int) (hu : near46 u) (w : World) : Calls Try.prog 46 #[.int .i64 u, .int .i64 k] w fun e w' => e = .returned (.int .i64 (toZ u k)) ∧ w = w' := by
  unfold near46 at hu
  have HC := hide (RCut_any k w)
  have HP := hide (P32_any (cutZ k) (cutZ_le k) w)
  have hp := pow15 (cutZ_le k)
  obtain ⟨z, hz⟩ : ∃ z, toZ u k = z := ⟨_, rfl⟩
  rw [hz]
  unfold toZ at hz
  obtain ⟨n, hn⟩ : ∃ n, cutZ k = n := ⟨_, rfl⟩
  rw [hn] at HC HP hp hz
  obtain ⟨p, hpp⟩ : ∃ p, (2 : Int) ^ n = p := ⟨_, rfl⟩
  rw [hpp] at HP hp hz
  obtain ⟨x, hx⟩ : ∃ x, 32768 * (p - 1) = x := ⟨_, rfl⟩
  obtain ⟨y, hy⟩ : ∃ y, u - x = y := ⟨_, rfl⟩
  rw [hx, hy] at hz
  have HD := hide (Down_any y p w ⟨by omega, by omega⟩ ⟨by omega, by omega⟩ (by omega) (by omega))
  rw [Int.fdiv_eq_ediv_of_nonneg _ (by omega), hz] at HD
  have h3 : wrap64 (p - 1) = p - 1 := IntWalk.wrap64_in _ (by omega)
  have h4 : wrap64 (32768 * (p - 1)) = x := by rw [← hx]; exact IntWalk.wrap64_in _ (by omega)
  have h5 : wrap64 (u - x) = y := by rw [← hy]; exact IntWalk.wrap64_in _ (by omega)
  clear hz hn hy hx hu hp hpp
  go_enter Try.func46, Try.ntmps46
  go_wp2_with fail
  refine HC.out.mono ?_
  rintro e w1 ⟨rfl, rfl⟩
  go_wp2_with fail
  refine HP.out.mono ?_
  rintro e w1 ⟨rfl, rfl⟩
  go_wp2_with fail
  refine HD.out.mono ?_
  rintro e w1 ⟨rfl, rfl⟩
  go_wp2_with fail
  go_ret
  exact ⟨rfl, rfl⟩
theorem RFrom_any (u k : Int) (hu : -70368744177664 ≤ u ∧ u ≤ 70368744177664) (w : World) : Calls Try.prog 48 #[.int .i64 u, .int .i64 k] w fun e w' => e = .returned (.int .i64 (fromZ u k)) ∧ w = w' := by
  have HC := hide (RCut_any k w)
  have HP := hide (P32_any (cutZ k) (cutZ_le k) w)
  have hp := pow15 (cutZ_le k)
  obtain ⟨z, hz⟩ : ∃ z, fromZ u k = z := ⟨_, rfl⟩
  rw [hz]
  unfold fromZ at hz
  obtain ⟨n, hn⟩ : ∃ n, cutZ k = n := ⟨_, rfl⟩
  rw [hn] at HC HP hp hz
  obtain ⟨p, hpp⟩ : ∃ p, (2 : Int) ^ n = p := ⟨_, rfl⟩
  rw [hpp] at HP hp hz
  obtain ⟨x, hx⟩ : ∃ x, 32768 * (p - 1) = x := ⟨_, rfl⟩
  have hmul : -2305843009213693952 ≤ u * p ∧ u * p ≤ 2305843009213693952 := by
    have h1 : -70368744177664 * p ≤ u * p := Int.mul_le_mul_of_nonneg_right hu.1 (by omega)
    have h2 : u * p ≤ 70368744177664 * p := Int.mul_le_mul_of_nonneg_right hu.2 (by omega)
    omega
  obtain ⟨y, hy⟩ : ∃ y, u * p = y := ⟨_, rfl⟩
  rw [hx, hy] at hz
  rw [hy] at hmul
  have h1 : wrap64 (u * p) = y := by rw [hy]; exact IntWalk.wrap64_in _ (by omega)
  have h3 : wrap64 (p - 1) = p - 1 := IntWalk.wrap64_in _ (by omega)
  have h4 : wrap64 (32768 * (p - 1)) = x := by rw [← hx]; exact IntWalk.wrap64_in _ (by omega)
  have h5 : wrap64 (y + x) = z := by rw [← hz]; exact IntWalk.wrap64_in _ (by omega)
  clear hz hn hy hx hu hp hpp hmul
  go_enter Try.func48, Try.ntmps48
  go_wp2_with fail
  refine HC.out.mono ?_
  rintro e w1 ⟨rfl, rfl⟩
  go_wp2_with fail
  refine HP.out.mono ?_
  rintro e w1 ⟨rfl, rfl⟩
  go_wp2_with fail
  go_ret
  exact ⟨h5 ▸ rfl, rfl⟩
theorem alive32_any (w : World) : Calls Try.prog 44 #[] w fun e w' => e = .returned (.bool true) ∧ w = w' := by
  have H1 := hide (Pick_any 262144 9 w)
  have H2 := hide (To_any 32768 1 (by unfold near46; omega) w)
  rw [show pickZ 262144 9 = 2 by decide] at H1
  rw [show toZ 32768 1 = 0 by decide] at H2
  go_enter Try.func44, Try.ntmps44
  go_wp2_with fail
  refine H1.out.mono ?_
  rintro e w1 ⟨rfl, rfl⟩
  go_wp2_with fail
  refine H2.out.mono ?_
  rintro e w1 ⟨rfl, rfl⟩
  go_wp2_with fail
  go_ret
  exact ⟨rfl, rfl⟩
end Go.Proofs.Ytehkccogbgjcaaa
