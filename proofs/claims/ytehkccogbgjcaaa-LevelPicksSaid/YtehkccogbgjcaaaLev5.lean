/-
Contracts of level's From. No statement is proved here.
-/
import Derived.Test.YtehkccogbgjcaaaLev4
import Derived.Test.YtehkccogbgjcaaaIn18
import Derived.BigQuiet
import Derived.Deep.QuietTactic
namespace Go.Proofs.Ytehkccogbgjcaaa
open Go.RowKit

theorem From_any (u k : Int) (hu : InZ u 70368744177664) (w : World) : Calls Try.prog 47 #[.int .i64 u, .int .i64 k] w fun e w' => e = .returned (.int .i64 (fromZ u k)) ∧ Below w.heap.size w w' := by
  unfold InZ at hu
  have HC := hide (Cut_any k w)
  have HO := hide (fun w n => Calls.quiet_of_same (w := w) (n := n) ((Off_any (cutZ k) (cutZ_le k) _).mono fun _ _ k => ⟨k.1, k.2.symm⟩))
  have hp := pow15 (cutZ_le k)
  have hl := cutZ_le k
  have HB := hide (Below.refl w.heap.size w)
  obtain ⟨z, hz⟩ : ∃ z, fromZ u k = z := ⟨_, rfl⟩
  rw [hz]
  unfold fromZ at hz
  obtain ⟨n, hn⟩ : ∃ n, cutZ k = n := ⟨_, rfl⟩
  rw [hn] at HC HO hp hz hl
  obtain ⟨p, hpp⟩ : ∃ p, (2 : Int) ^ n = p := ⟨_, rfl⟩
  rw [hpp] at HO hp hz
  obtain ⟨x, hx⟩ : ∃ x, 32768 * (p - 1) = x := ⟨_, rfl⟩
  rw [hx] at HO hz
  have hmul : -2305843009213693952 ≤ u * p ∧ u * p ≤ 2305843009213693952 := by
    have h1 : -70368744177664 * p ≤ u * p := Int.mul_le_mul_of_nonneg_right hu.1 (by omega)
    have h2 : u * p ≤ 70368744177664 * p := Int.mul_le_mul_of_nonneg_right hu.2 (by omega)
    omega
  obtain ⟨y, hy⟩ : ∃ y, u * p = y := ⟨_, rfl⟩
  rw [hy] at hz hmul
  have h0 : 2 ^ n = p := hpp
  have h1 : wrap64 (u * p) = y := by rw [hy]; exact IntWalk.wrap64_in _ (by omega)
  have h2 : wrap64 (y + x) = z := by rw [← hz]; exact IntWalk.wrap64_in _ (by omega)
  have h3 : (0 : Int) ≤ (n : Int) := by omega
  clear hz hn hy hx hu hp hmul
  go_enter Try.func47, Try.ntmps47
  go_wp2_with fail
  refine HC.out.mono ?_
  rintro e w1 ⟨rfl, rfl⟩
  go_wp2_with fail
  refine wp_region_quiet_lit (by kernel_rfl) (by kernel_rfl) ?_
  iterate 7 go_big_quiet_step ((go_at_call 73; exact HO.out _ _))
  refine wpQuiet_nil ?_
  intro _ hw'
  obtain ⟨nq, hw''⟩ := hw'
  subst hw''
  have HJ := hide (bdrewN HB.out nq)
  generalize w.drewN nq = wE at HJ ⊢
  go_wp2_with fail
  go_ret
  exact ⟨h2 ▸ rfl, HJ.out⟩
end Go.Proofs.Ytehkccogbgjcaaa
