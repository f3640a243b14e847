/-
Whole pixels of a place that may be. No program, no statement.
-/
import Derived.Test.YtehkccogbgjcaaaFar
import Derived.Test.YtehkccogbgjcaaaSplit
namespace Go.Proofs.Ytehkccogbgjcaaa
open Go.RowKit

theorem far_i64 {x : Int} (h : InZ x 70368744177664) : isI64 x := by unfold InZ at h; unfold isI64; omega
theorem far_bound {x : Int} (h : InZ x 70368744177664) : -1073741824 ≤ spI x ∧ spI x ≤ 1073741824 := by
  unfold InZ at h
  unfold spI
  rw [Int.fdiv_eq_ediv_of_nonneg _ (by decide)]
  omega
end Go.Proofs.Ytehkccogbgjcaaa
