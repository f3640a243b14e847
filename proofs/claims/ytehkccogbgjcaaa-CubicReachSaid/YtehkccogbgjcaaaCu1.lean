/-
CubicReach's walk.
-/
import Derived.Test.YtehkccogbgjcaaaCu0
namespace Go.Proofs.Ytehkccogbgjcaaa
open Go.RowKit

theorem Calive_any (w : World) : Calls Try.prog 35 #[] w fun e w' => e = .returned (.bool true) ∧ w = w' := by
  have H := hide (CReach_yes 0 65536 w (by decide) (by decide))
  go_enter Try.func35, Try.ntmps35
  go_wp2_with fail
  refine H.out.mono ?_
  rintro e w1 ⟨rfl, rfl⟩
  go_wp2_with fail
  go_ret
  exact ⟨rfl, rfl⟩

theorem CubicReach_walk (lo hi : Int) (w : World) : Calls Try.prog 8 #[.int .i64 lo, .int .i64 hi] w (Says w (.bool true)) := by
  have HB := hide (Below.refl w.heap.size w)
  have HA := hide (Calive_any w)
  by_cases h : lo ≤ hi ∧ RightN lo hi
  · have H1 := hide (CReach_yes lo hi w h.1 h.2)
    have H2 := hide (RSplit_any lo w (far_i64 h.2.1))
    have H3 := hide (RSplit_any hi w (far_i64 h.2.2))
    have b1 := far_bound h.2.1
    have b2 := far_bound h.2.2
    have HR := hide (FRight_any lo hi w)
    rw [decide_eq_true h.2] at HR
    obtain ⟨x, hx⟩ : ∃ z, spI lo = z := ⟨_, rfl⟩
    obtain ⟨y, hy⟩ : ∃ z, spI hi = z := ⟨_, rfl⟩
    rw [hx] at H1 H2 b1
    rw [hy] at H1 H3 b2
    have k : ¬ hi < lo := by omega
    clear h hx hy
    go_enter Try.func8, Try.ntmps8
    go_wp2_with fail
    refine H1.out.mono ?_
    rintro e w1 ⟨rfl, rfl⟩
    go_wp2_with fail
    refine HR.out.mono ?_
    rintro e w1 ⟨rfl, rfl⟩
    go_wp2_with fail
    refine H2.out.mono ?_
    rintro e w1 ⟨rfl, rfl⟩
    go_wp2_with fail
    refine H3.out.mono ?_
    rintro e w1 ⟨rfl, rfl⟩
    go_wp2_with fail
    refine HA.out.mono ?_
    rintro e w1 ⟨rfl, rfl⟩
    go_wp2_with fail
    go_ret
    exact ⟨rfl, HB.out⟩
  · have H1 := hide (CReach_no lo hi w h)
    have HR := hide (FRight_any lo hi w)
    by_cases k : hi < lo
    · clear h HR
      go_enter Try.func8, Try.ntmps8
      go_wp2_with fail
      refine H1.out.mono ?_
      rintro e w1 ⟨rfl, rfl⟩
      go_wp2_with fail
      refine HA.out.mono ?_
      rintro e w1 ⟨rfl, rfl⟩
      go_wp2_with fail
      go_ret
      exact ⟨rfl, HB.out⟩
    · rw [decide_eq_false fun q => h ⟨by omega, q⟩] at HR
      clear h
      go_enter Try.func8, Try.ntmps8
      go_wp2_with fail
      refine H1.out.mono ?_
      rintro e w1 ⟨rfl, rfl⟩
      go_wp2_with fail
      refine HR.out.mono ?_
      rintro e w1 ⟨rfl, rfl⟩
      go_wp2_with fail
      refine HA.out.mono ?_
      rintro e w1 ⟨rfl, rfl⟩
      go_wp2_with fail
      go_ret
      exact ⟨rfl, HB.out⟩
end Go.Proofs.Ytehkccogbgjcaaa
