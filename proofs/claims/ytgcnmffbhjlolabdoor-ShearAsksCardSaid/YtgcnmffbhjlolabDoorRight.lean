/-
Contracts of the reference: whether a number is in a range, and whether a place may be asked for. No statement is proved here.
-/
import Derived.Test.YtgcnmffbhjlolabDoorRows
import Derived.Test.YtgcnmffbhjlolabDoorLen0
import Derived.Test.YtgcnmffbhjlolabDoorInts
import Derived.BigQuiet
import Derived.Deep.QuietTactic
namespace Go.Proofs.YtgcnmffbhjlolabDoor
open Go.RowKit

theorem In_any (x m : Int) (w : World) (hm : 0 ≤ m ∧ m ≤ 9223372036854775807) : Calls Tryd.prog 18 #[.int .i64 x, .int .i64 m] w fun e w' => e = .returned (.bool (decide (InZ x m))) ∧ w = w' := by
  have hw : wrap64 (-m) = -m := IntWalk.wrap64_in _ (by omega)
  obtain ⟨g, hg⟩ : ∃ g, decide (InZ x m) = g := ⟨_, rfl⟩
  rw [hg]
  clear hm
  by_cases a1 : -m ≤ x
  · have hf : decide (x ≤ m) = g := by rw [← hg]; exact decide_eq_decide.2 ⟨fun h => ⟨a1, h⟩, fun h => h.2⟩
    clear hg
    go_enter Tryd.func18, Tryd.ntmps18
    go_wp2_with fail
    go_ret
    exact ⟨rfl, rfl⟩
  · obtain rfl : false = g := by rw [← hg]; exact (decide_eq_false fun h => a1 h.1).symm
    clear hg
    go_enter Tryd.func18, Tryd.ntmps18
    go_wp2_with fail
    go_ret
    exact ⟨rfl, rfl⟩

theorem right_and (x y d : Int) : decide (RightZ x y d) = (decide (InZ x 1048576) && decide (InZ y 1048576) && decide (1 ≤ d) && decide (d ≤ 16)) := by
  rw [← Bool.decide_and, ← Bool.decide_and, ← Bool.decide_and]
  exact decide_eq_decide.2 ⟨fun ⟨a, b, c, d⟩ => ⟨⟨⟨a, b⟩, c⟩, d⟩, fun ⟨⟨⟨a, b⟩, c⟩, d⟩ => ⟨a, b, c, d⟩⟩
theorem RRight_any (x y d : Int) (w : World) : Calls Tryd.prog 13 #[.int .i64 x, .int .i64 y, .int .i64 d] w fun e w' => e = .returned (.bool (decide (RightZ x y d))) ∧ w = w' := by
  have H1 := hide (In_any x 1048576 w (by decide))
  have H2 := hide (In_any y 1048576 w (by decide))
  rw [right_and]
  obtain ⟨b1, h1⟩ : ∃ b, decide (InZ x 1048576) = b := ⟨_, rfl⟩
  obtain ⟨b2, h2⟩ : ∃ b, decide (InZ y 1048576) = b := ⟨_, rfl⟩
  obtain ⟨b3, h3⟩ : ∃ b, decide (1 ≤ d) = b := ⟨_, rfl⟩
  obtain ⟨b4, h4⟩ : ∃ b, decide (d ≤ 16) = b := ⟨_, rfl⟩
  rw [h1] at H1 ⊢
  rw [h2] at H2 ⊢
  rw [h3, h4]
  clear h1 h2
  cases b1
  · go_enter Tryd.func13, Tryd.ntmps13
    go_wp2_with fail
    refine H1.out.mono ?_
    rintro e w1 ⟨rfl, rfl⟩
    go_wp2_with fail
    go_ret
    exact ⟨rfl, rfl⟩
  · cases b2
    · go_enter Tryd.func13, Tryd.ntmps13
      go_wp2_with fail
      refine H1.out.mono ?_
      rintro e w1 ⟨rfl, rfl⟩
      go_wp2_with fail
      refine H2.out.mono ?_
      rintro e w1 ⟨rfl, rfl⟩
      go_wp2_with fail
      go_ret
      exact ⟨rfl, rfl⟩
    · cases b3
      all_goals
        go_enter Tryd.func13, Tryd.ntmps13
        go_wp2_with fail
        refine H1.out.mono ?_
        rintro e w1 ⟨rfl, rfl⟩
        go_wp2_with fail
        refine H2.out.mono ?_
        rintro e w1 ⟨rfl, rfl⟩
        go_wp2_with fail
        go_ret
        exact ⟨rfl, rfl⟩

end Go.Proofs.YtgcnmffbhjlolabDoor
