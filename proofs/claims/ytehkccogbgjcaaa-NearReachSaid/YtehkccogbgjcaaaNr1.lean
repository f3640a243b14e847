/-
NearReach's walk. No statement is proved here.
-/
import Derived.Test.YtehkccogbgjcaaaNr0
namespace Go.Proofs.Ytehkccogbgjcaaa
open Go.RowKit

theorem Nalive_any (w : World) : Calls Try.prog 28 #[] w fun e w' => e = .returned (.bool true) ∧ w = w' := by
  have H := hide (NReach_yes 0 65536 w (by decide) (by decide))
  go_enter Try.func28, Try.ntmps28
  go_wp2_with fail
  refine H.out.mono ?_
  rintro e w1 ⟨rfl, rfl⟩
  go_wp2_with fail
  go_ret
  exact ⟨rfl, rfl⟩

theorem NearReach_walk (lo hi : Int) (w : World) : Calls Try.prog 6 #[.int .i64 lo, .int .i64 hi] w (Says w (.bool true)) := by
  have HB := hide (Below.refl w.heap.size w)
  have HA := hide (Nalive_any w)
  by_cases h : lo ≤ hi ∧ RightN lo hi
  · have H1 := hide (NReach_yes lo hi w h.1 h.2)
    have H2 := hide (RNearest_any lo w h.2.1)
    have H3 := hide (RNearest_any hi w h.2.2)
    have HR := hide (FRight_any lo hi w)
    rw [decide_eq_true h.2] at HR
    obtain ⟨x, hx⟩ : ∃ z, nearC lo = z := ⟨_, rfl⟩
    obtain ⟨y, hy⟩ : ∃ z, nearC hi = z := ⟨_, rfl⟩
    rw [hx] at H1 H2
    rw [hy] at H1 H3
    have k : ¬ hi < lo := by omega
    clear h hx hy
    go_enter Try.func6, Try.ntmps6
    go_wp2_with fail
    refine H1.out.mono ?_
    rintro e w1 ⟨rfl, rfl⟩
    go_wp2_with fail
    refine HR.out.mono ?_
    rintro e w1 ⟨rfl, rfl⟩
    go_wp2_with fail
    refine H2.out.mono ?_
    rintro e w1 ⟨rfl, rfl⟩
    go_wp2_with fail
    refine H3.out.mono ?_
    rintro e w1 ⟨rfl, rfl⟩
    go_wp2_with fail
    refine HA.out.mono ?_
    rintro e w1 ⟨rfl, rfl⟩
    go_wp2_with fail
    go_ret
    exact ⟨rfl, HB.out⟩
  · have H1 := hide (NReach_no lo hi w h)
    have HR := hide (FRight_any lo hi w)
    by_cases k : hi < lo
    · clear h HR
      go_enter Try.func6, Try.ntmps6
      go_wp2_with fail
      refine H1.out.mono ?_
      rintro e w1 ⟨rfl, rfl⟩
      go_wp2_with fail
      refine HA.out.mono ?_
      rintro e w1 ⟨rfl, rfl⟩
      go_wp2_with fail
      go_ret
      exact ⟨rfl, HB.out⟩
    · rw [decide_eq_false fun q => h ⟨by omega, q⟩] at HR
      clear h
      go_enter Try.func6, Try.ntmps6
      go_wp2_with fail
      refine H1.out.mono ?_
      rintro e w1 ⟨rfl, rfl⟩
      go_wp2_with fail
      refine HR.out.mono ?_
      rintro e w1 ⟨rfl, rfl⟩
      go_wp2_with fail
      refine HA.out.mono ?_
      rintro e w1 ⟨rfl, rfl⟩
      go_wp2_with fail
      go_ret
      exact ⟨rfl, HB.out⟩
end Go.Proofs.Ytehkccogbgjcaaa
