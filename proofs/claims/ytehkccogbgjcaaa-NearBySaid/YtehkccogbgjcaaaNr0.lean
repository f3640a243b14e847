/-
Contracts of near: what may be asked for, the nearest column, the columns that are asked for. No statement is proved here.
-/
import Derived.Test.YtehkccogbgjcaaaFar
import Derived.Test.YtehkccogbgjcaaaDown
namespace Go.Proofs.Ytehkccogbgjcaaa
open Go.RowKit

theorem NIn_any (x m : Int) (w : World) (hm : 0 ≤ m ∧ m ≤ 9223372036854775807) : Calls Try.prog 84 #[.int .i64 x, .int .i64 m] w fun e w' => e = .returned (.bool (decide (InZ x m))) ∧ w = w' := by
  have hw : wrap64 (-m) = -m := IntWalk.wrap64_in _ (by omega)
  obtain ⟨g, hg⟩ : ∃ g, decide (InZ x m) = g := ⟨_, rfl⟩
  rw [hg]
  clear hm
  by_cases a1 : -m ≤ x
  · have hf : decide (x ≤ m) = g := by rw [← hg]; exact decide_eq_decide.2 ⟨fun h => ⟨a1, h⟩, fun h => h.2⟩
    clear hg
    go_enter Try.func84, Try.ntmps84
    go_wp2_with fail
    go_ret
    exact ⟨rfl, rfl⟩
  · obtain rfl : false = g := by rw [← hg]; exact (decide_eq_false fun h => a1 h.1).symm
    clear hg
    go_enter Try.func84, Try.ntmps84
    go_wp2_with fail
    go_ret
    exact ⟨rfl, rfl⟩
theorem NRight_any (u v : Int) (w : World) : Calls Try.prog 59 #[.int .i64 u, .int .i64 v] w fun e w' => e = .returned (.bool (decide (RightN u v))) ∧ w = w' := by
  have H1 := hide (NIn_any u 70368744177664 w (by decide))
  have H2 := hide (NIn_any v 70368744177664 w (by decide))
  rw [rightN_and]
  obtain ⟨b1, h1⟩ : ∃ b, decide (InZ u 70368744177664) = b := ⟨_, rfl⟩
  obtain ⟨b2, h2⟩ : ∃ b, decide (InZ v 70368744177664) = b := ⟨_, rfl⟩
  rw [h1] at H1 ⊢
  rw [h2] at H2 ⊢
  clear h1 h2
  cases b1
  · go_enter Try.func59, Try.ntmps59
    go_wp2_with fail
    refine H1.out.mono ?_
    rintro e w1 ⟨rfl, rfl⟩
    go_wp2_with fail
    go_ret
    exact ⟨rfl, rfl⟩
  · go_enter Try.func59, Try.ntmps59
    go_wp2_with fail
    refine H1.out.mono ?_
    rintro e w1 ⟨rfl, rfl⟩
    go_wp2_with fail
    refine H2.out.mono ?_
    rintro e w1 ⟨rfl, rfl⟩
    go_wp2_with fail
    go_ret
    exact ⟨rfl, rfl⟩

/-- the column that is nearest -/
def nearC (u : Int) : Int := Int.fdiv (u + 32768) 65536
theorem NNearest_any (u : Int) (w : World) (hu : InZ u 70368744177664) : Calls Try.prog 60 #[.int .i64 u] w fun e w' => e = .returned (.int .i64 (nearC u)) ∧ w = w' := by
  unfold InZ at hu
  have e1 : wrap64 (u + 32768) = u + 32768 := IntWalk.wrap64_in _ (by omega)
  have e2 : (u + 32768) / 65536 = nearC u := (Int.fdiv_eq_ediv_of_nonneg _ (by decide)).symm
  obtain ⟨z, hz⟩ : ∃ z, nearC u = z := ⟨_, rfl⟩
  rw [hz] at e2 ⊢
  obtain ⟨y, hy⟩ : ∃ y, u + 32768 = y := ⟨_, rfl⟩
  rw [hy] at e1 e2
  clear hz hu
  go_enter Try.func60, Try.ntmps60
  go_wp2_with fail
  go_ret
  exact ⟨by simp_all, rfl⟩
theorem RNearest_any (u : Int) (w : World) (hu : InZ u 70368744177664) : Calls Try.prog 29 #[.int .i64 u] w fun e w' => e = .returned (.int .i64 (nearC u)) ∧ w = w' := by
  unfold InZ at hu
  have e1 : wrap64 (u + 32768) = u + 32768 := IntWalk.wrap64_in _ (by omega)
  have H := hide (Down_any (u + 32768) 65536 w ⟨by omega, by omega⟩ ⟨by decide, by decide⟩ (by decide) (by omega))
  have e2 : Int.fdiv (u + 32768) 65536 = nearC u := rfl
  obtain ⟨z, hz⟩ : ∃ z, nearC u = z := ⟨_, rfl⟩
  rw [e2, hz] at H
  rw [hz]
  obtain ⟨y, hy⟩ : ∃ y, u + 32768 = y := ⟨_, rfl⟩
  rw [hy] at e1 H
  clear hz hu e2
  go_enter Try.func29, Try.ntmps29
  go_wp2_with fail
  refine H.out.mono ?_
  rintro e w1 ⟨rfl, rfl⟩
  go_wp2_with fail
  go_ret
  exact ⟨rfl, rfl⟩
theorem NReach_no (lo hi : Int) (w : World) (h : ¬ (lo ≤ hi ∧ RightN lo hi)) : Calls Try.prog 30 #[.int .i64 lo, .int .i64 hi] w fun e w' => e = .returned (.tuple #[.int .i64 0, .int .i64 0]) ∧ w = w' := by
  have H1 := hide (NRight_any lo hi w)
  by_cases k : hi < lo
  · clear h H1
    go_enter Try.func30, Try.ntmps30
    go_wp2_with fail
    refine bodyPost_ret (v := .tuple #[.int .i64 0, .int .i64 0]) (by simp [results, Try.results30, go_sem]) rfl ⟨rfl, rfl⟩
  · rw [decide_eq_false fun q => h ⟨by omega, q⟩] at H1
    clear h
    go_enter Try.func30, Try.ntmps30
    go_wp2_with fail
    refine H1.out.mono ?_
    rintro e w1 ⟨rfl, rfl⟩
    go_wp2_with fail
    refine bodyPost_ret (v := .tuple #[.int .i64 0, .int .i64 0]) (by simp [results, Try.results30, go_sem]) rfl ⟨rfl, rfl⟩
theorem NReach_yes (lo hi : Int) (w : World) (h : lo ≤ hi) (hr : RightN lo hi) : Calls Try.prog 30 #[.int .i64 lo, .int .i64 hi] w fun e w' => e = .returned (.tuple #[.int .i64 (nearC lo), .int .i64 (nearC hi)]) ∧ w = w' := by
  have H1 := hide (NRight_any lo hi w)
  have H2 := hide (NNearest_any lo w hr.1)
  have H3 := hide (NNearest_any hi w hr.2)
  rw [decide_eq_true hr] at H1
  obtain ⟨x, hx⟩ : ∃ z, nearC lo = z := ⟨_, rfl⟩
  obtain ⟨y, hy⟩ : ∃ z, nearC hi = z := ⟨_, rfl⟩
  rw [hx] at H2 ⊢
  rw [hy] at H3 ⊢
  have k : ¬ hi < lo := by omega
  clear h hr hx hy
  go_enter Try.func30, Try.ntmps30
  go_wp2_with fail
  refine H1.out.mono ?_
  rintro e w1 ⟨rfl, rfl⟩
  go_wp2_with fail
  refine H2.out.mono ?_
  rintro e w1 ⟨rfl, rfl⟩
  go_wp2_with fail
  refine H3.out.mono ?_
  rintro e w1 ⟨rfl, rfl⟩
  go_wp2_with fail
  refine bodyPost_ret (v := .tuple #[.int .i64 x, .int .i64 y]) (by simp [results, Try.results30, go_sem]) rfl ⟨rfl, rfl⟩
end Go.Proofs.Ytehkccogbgjcaaa
