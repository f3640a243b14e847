/-
The library's bytes.Equal and bytes.Clone, by their contracts on the shelf. No statement is proved here.
-/
import Derived.Shelf.Bytes.SlClone
import Derived.Test.YtfhjdghhgojbkaaRows
import Derived.Test.YtfhjdghhgojbkaaImg0
namespace Go.Proofs.Ytfhjdghhgojbkaa
open Go.Shelf Go.RowKit

def laysClone_ren : Go.Shelf.Ren := ⟨fun | 4 => 58 | n => n, fun | 22 => 38 | 4 => 4 | 5 => 5 | n => n, fun | n => n⟩
theorem laysClone : Go.Proofs.SlLaysK.n4 Try.prog laysClone_ren := {
  mixed := by kernel_rfl
  f4 := Try.func58.trans (congrArg some (by kernel_rfl))
  t4 := Try.underlying4
  a4 := Try.isAgg4
  z4 := Try.sizeOf4
  v4 := Try.zeroValue4
  t22 := Try.underlying38
  a22 := Try.isAgg38
  z22 := Try.sizeOf38
  v22 := Try.zeroValue38
  t5 := Try.underlying5
  i5 := by kernel_rfl }
def laysEqual_ren : Go.Shelf.Ren := ⟨fun | 115 => 53 | n => n, fun | 37 => 38 | 4 => 4 | 9 => 9 | 5 => 5 | n => n, fun | n => n⟩
theorem laysEqual : Go.Proofs.Lays.nb115 Try.prog laysEqual_ren := {
  mixed := by kernel_rfl
  f115 := Try.func53.trans (congrArg some (by kernel_rfl))
  t4 := Try.underlying4
  a4 := Try.isAgg4
  z4 := Try.sizeOf4
  v4 := Try.zeroValue4
  t9 := Try.underlying9
  a9 := Try.isAgg9
  z9 := Try.sizeOf9
  v9 := Try.zeroValue9
  t37 := Try.underlying38
  a37 := Try.isAgg38
  z37 := Try.sizeOf38
  v37 := Try.zeroValue38
  t5 := Try.underlying5
  a5 := Try.isAgg5
  z5 := Try.sizeOf5
  v5 := Try.zeroValue5 }
theorem Equal_any (A A' : Option Addr) (n c n' c' : Nat) (xs ys : List Int) (w : World) (h : BY w A n c xs) (h' : BY w A' n' c' ys) :
    Calls Try.prog 53 #[.slice A n c, .slice A' n' c'] w fun e w' => e = .returned (.bool (decide (xs = ys))) ∧ w = w' :=
  (Any.bytes_Equal_all laysEqual A A' n c n' c' xs ys w h.1 h'.1 h.bytesIn h'.bytesIn).mono fun _ _ k => ⟨by rw [← bytesOf_inj h.2.2.2.1 h'.2.2.2.1]; exact k.1, k.2.symm⟩

end Go.Proofs.Ytfhjdghhgojbkaa
