/-
The library's bytes.Clone, by their contracts on the shelf. No statement is proved here.
-/
import Derived.Shelf.Bytes.SlClone
import Derived.Test.YtbogckpnajjlmaaRows
import Derived.Test.YtbogckpnajjlmaaImg0
namespace Go.Proofs.Ytbogckpnajjlmaa
open Go.Shelf Go.RowKit

def laysClone_ren : Go.Shelf.Ren := ⟨fun | 4 => 48 | n => n, fun | 22 => 22 | 4 => 4 | 5 => 5 | n => n, fun | n => n⟩
theorem laysClone : Go.Proofs.SlLaysK.n4 Try.prog laysClone_ren := {
  mixed := by kernel_rfl
  f4 := Try.func48.trans (congrArg some (by kernel_rfl))
  t4 := Try.underlying4
  a4 := Try.isAgg4
  z4 := Try.sizeOf4
  v4 := Try.zeroValue4
  t22 := Try.underlying22
  a22 := Try.isAgg22
  z22 := Try.sizeOf22
  v22 := Try.zeroValue22
  t5 := Try.underlying5
  i5 := by kernel_rfl }

end Go.Proofs.Ytbogckpnajjlmaa
