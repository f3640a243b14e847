/-
Contract of the reference: whether a place of two numbers may be. No statement is proved here.
-/
import Derived.Test.YtehkccogbgjcaaaIn18
namespace Go.Proofs.Ytehkccogbgjcaaa
open Go.RowKit

/-- whether both numbers of a place may be -/
def RightN (u v : Int) : Prop := InZ u 70368744177664 ∧ InZ v 70368744177664
instance (u v : Int) : Decidable (RightN u v) := by unfold RightN; infer_instance
theorem rightN_and (u v : Int) : decide (RightN u v) = (decide (InZ u 70368744177664) && decide (InZ v 70368744177664)) := by
  rw [← Bool.decide_and]; rfl
theorem FRight_any (u v : Int) (w : World) : Calls Try.prog 27 #[.int .i64 u, .int .i64 v] w fun e w' => e = .returned (.bool (decide (RightN u v))) ∧ w = w' := by
  have H1 := hide (In_any u 70368744177664 w (by decide))
  have H2 := hide (In_any v 70368744177664 w (by decide))
  rw [rightN_and]
  obtain ⟨b1, h1⟩ : ∃ b, decide (InZ u 70368744177664) = b := ⟨_, rfl⟩
  obtain ⟨b2, h2⟩ : ∃ b, decide (InZ v 70368744177664) = b := ⟨_, rfl⟩
  rw [h1] at H1 ⊢
  rw [h2] at H2 ⊢
  clear h1 h2
  cases b1
  · go_enter Try.func27, Try.ntmps27
    go_wp2_with fail
    refine H1.out.mono ?_
    rintro e w1 ⟨rfl, rfl⟩
    go_wp2_with fail
    go_ret
    exact ⟨rfl, rfl⟩
  · go_enter Try.func27, Try.ntmps27
    go_wp2_with fail
    refine H1.out.mono ?_
    rintro e w1 ⟨rfl, rfl⟩
    go_wp2_with fail
    refine H2.out.mono ?_
    rintro e w1 ⟨rfl, rfl⟩
    go_wp2_with fail
    go_ret
    exact ⟨rfl, rfl⟩
end Go.Proofs.Ytehkccogbgjcaaa
