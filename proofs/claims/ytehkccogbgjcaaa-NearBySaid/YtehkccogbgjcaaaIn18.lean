/-
Contract of the reference: whether a number is in a range. No statement is proved here.
-/
import Derived.Test.YtehkccogbgjcaaaRows
import Derived.Test.YtehkccogbgjcaaaLen0
import Derived.Test.YtehkccogbgjcaaaInts
namespace Go.Proofs.Ytehkccogbgjcaaa
open Go.RowKit

theorem In_any (x m : Int) (w : World) (hm : 0 ≤ m ∧ m ≤ 9223372036854775807) : Calls Try.prog 43 #[.int .i64 x, .int .i64 m] w fun e w' => e = .returned (.bool (decide (InZ x m))) ∧ w = w' := by
  have hw : wrap64 (-m) = -m := IntWalk.wrap64_in _ (by omega)
  obtain ⟨g, hg⟩ : ∃ g, decide (InZ x m) = g := ⟨_, rfl⟩
  rw [hg]
  clear hm
  by_cases a1 : -m ≤ x
  · have hf : decide (x ≤ m) = g := by rw [← hg]; exact decide_eq_decide.2 ⟨fun h => ⟨a1, h⟩, fun h => h.2⟩
    clear hg
    go_enter Try.func43, Try.ntmps43
    go_wp2_with fail
    go_ret
    exact ⟨rfl, rfl⟩
  · obtain rfl : false = g := by rw [← hg]; exact (decide_eq_false fun h => a1 h.1).symm
    clear hg
    go_enter Try.func43, Try.ntmps43
    go_wp2_with fail
    go_ret
    exact ⟨rfl, rfl⟩
end Go.Proofs.Ytehkccogbgjcaaa
