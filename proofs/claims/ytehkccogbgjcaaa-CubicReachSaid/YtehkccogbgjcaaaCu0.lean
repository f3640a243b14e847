/-
Contracts of cubic: what may be asked for, the columns that are asked for. No statement is proved here.
-/
import Derived.Test.YtehkccogbgjcaaaFarS
namespace Go.Proofs.Ytehkccogbgjcaaa
open Go.RowKit

theorem CIn_any (x m : Int) (w : World) (hm : 0 ≤ m ∧ m ≤ 9223372036854775807) : Calls Try.prog 90 #[.int .i64 x, .int .i64 m] w fun e w' => e = .returned (.bool (decide (InZ x m))) ∧ w = w' := by
  have hw : wrap64 (-m) = -m := IntWalk.wrap64_in _ (by omega)
  obtain ⟨g, hg⟩ : ∃ g, decide (InZ x m) = g := ⟨_, rfl⟩
  rw [hg]
  clear hm
  by_cases a1 : -m ≤ x
  · have hf : decide (x ≤ m) = g := by rw [← hg]; exact decide_eq_decide.2 ⟨fun h => ⟨a1, h⟩, fun h => h.2⟩
    clear hg
    go_enter Try.func90, Try.ntmps90
    go_wp2_with fail
    go_ret
    exact ⟨rfl, rfl⟩
  · obtain rfl : false = g := by rw [← hg]; exact (decide_eq_false fun h => a1 h.1).symm
    clear hg
    go_enter Try.func90, Try.ntmps90
    go_wp2_with fail
    go_ret
    exact ⟨rfl, rfl⟩
theorem CRight_any (u v : Int) (w : World) : Calls Try.prog 65 #[.int .i64 u, .int .i64 v] w fun e w' => e = .returned (.bool (decide (RightN u v))) ∧ w = w' := by
  have H1 := hide (CIn_any u 70368744177664 w (by decide))
  have H2 := hide (CIn_any v 70368744177664 w (by decide))
  rw [rightN_and]
  obtain ⟨b1, h1⟩ : ∃ b, decide (InZ u 70368744177664) = b := ⟨_, rfl⟩
  obtain ⟨b2, h2⟩ : ∃ b, decide (InZ v 70368744177664) = b := ⟨_, rfl⟩
  rw [h1] at H1 ⊢
  rw [h2] at H2 ⊢
  clear h1 h2
  cases b1
  · go_enter Try.func65, Try.ntmps65
    go_wp2_with fail
    refine H1.out.mono ?_
    rintro e w1 ⟨rfl, rfl⟩
    go_wp2_with fail
    go_ret
    exact ⟨rfl, rfl⟩
  · go_enter Try.func65, Try.ntmps65
    go_wp2_with fail
    refine H1.out.mono ?_
    rintro e w1 ⟨rfl, rfl⟩
    go_wp2_with fail
    refine H2.out.mono ?_
    rintro e w1 ⟨rfl, rfl⟩
    go_wp2_with fail
    go_ret
    exact ⟨rfl, rfl⟩

theorem CReach_no (lo hi : Int) (w : World) (h : ¬ (lo ≤ hi ∧ RightN lo hi)) : Calls Try.prog 34 #[.int .i64 lo, .int .i64 hi] w fun e w' => e = .returned (.tuple #[.int .i64 0, .int .i64 0]) ∧ w = w' := by
  have H1 := hide (CRight_any lo hi w)
  by_cases k : hi < lo
  · clear h H1
    go_enter Try.func34, Try.ntmps34
    go_wp2_with fail
    refine bodyPost_ret (v := .tuple #[.int .i64 0, .int .i64 0]) (by simp [results, Try.results34, go_sem]) rfl ⟨rfl, rfl⟩
  · rw [decide_eq_false fun q => h ⟨by omega, q⟩] at H1
    clear h
    go_enter Try.func34, Try.ntmps34
    go_wp2_with fail
    refine H1.out.mono ?_
    rintro e w1 ⟨rfl, rfl⟩
    go_wp2_with fail
    refine bodyPost_ret (v := .tuple #[.int .i64 0, .int .i64 0]) (by simp [results, Try.results34, go_sem]) rfl ⟨rfl, rfl⟩
theorem CReach_yes (lo hi : Int) (w : World) (h : lo ≤ hi) (hr : RightN lo hi) : Calls Try.prog 34 #[.int .i64 lo, .int .i64 hi] w fun e w' => e = .returned (.tuple #[.int .i64 (spI lo - 1), .int .i64 (spI hi + 2)]) ∧ w = w' := by
  have H1 := hide (CRight_any lo hi w)
  have H2 := hide (WSplit_any lo w (far_i64 hr.1))
  have H3 := hide (WSplit_any hi w (far_i64 hr.2))
  have b1 := far_bound hr.1
  have b2 := far_bound hr.2
  rw [decide_eq_true hr] at H1
  obtain ⟨x, hx⟩ : ∃ z, spI lo = z := ⟨_, rfl⟩
  obtain ⟨y, hy⟩ : ∃ z, spI hi = z := ⟨_, rfl⟩
  rw [hx] at H2 b1 ⊢
  rw [hy] at H3 b2 ⊢
  have k : ¬ hi < lo := by omega
  clear h hr hx hy
  go_enter Try.func34, Try.ntmps34
  go_wp2_with fail
  refine H1.out.mono ?_
  rintro e w1 ⟨rfl, rfl⟩
  go_wp2_with fail
  refine H2.out.mono ?_
  rintro e w1 ⟨rfl, rfl⟩
  go_wp2_with fail
  refine H3.out.mono ?_
  rintro e w1 ⟨rfl, rfl⟩
  go_wp2_with fail
  refine bodyPost_ret (v := .tuple #[.int .i64 (x - 1), .int .i64 (y + 2)]) (by simp [results, Try.results34, go_sem]) rfl ⟨rfl, rfl⟩
end Go.Proofs.Ytehkccogbgjcaaa
