/-
Contract of layer 28's fixed facts. No statement is proved here.
-/
import Derived.Test.YtehkccogbgjcaaaNr0
namespace Go.Proofs.Ytehkccogbgjcaaa
open Go.RowKit

theorem Nalive_any (w : World) : Calls Try.prog 28 #[] w fun e w' => e = .returned (.bool true) ∧ w = w' := by
  have H := hide (NReach_yes 0 65536 w (by decide) (by decide))
  go_enter Try.func28, Try.ntmps28
  go_wp2_with fail
  refine H.out.mono ?_
  rintro e w1 ⟨rfl, rfl⟩
  go_wp2_with fail
  go_ret
  exact ⟨rfl, rfl⟩

end Go.Proofs.Ytehkccogbgjcaaa
