/-
Contracts of the second reference: Near by 0. No statement is proved here.
-/
import Derived.Test.YtehkccogbgjcaaaQuo2
namespace Go.Proofs.Ytehkccogbgjcaaa
open Go.RowKit

set_option maxHeartbeats 1000000 in
theorem RNear_no (s : Bool) (A : Option Addr) (n c : Nat) (w : World) :
    Calls Try.prog 16 #[.agg #[.bool s, .slice A n c], .int .i64 0] w (MadeP w 0 0 false) := by
  have HB := hide (Two.below w s A n c)
  go_enter Try.func16, Try.ntmps16
  go_wp2_with fail
  refine bodyPost_ret (v := .tuple #[.agg #[.bool false, .slice none 0 0], .bool false]) (by simp [results, Try.results16, go_sem]) rfl ?_
  exact ⟨_, _, _, _, rfl, ⟨0, NW.nil _ 0, by simp, by simp⟩, HB.out⟩
end Go.Proofs.Ytehkccogbgjcaaa
