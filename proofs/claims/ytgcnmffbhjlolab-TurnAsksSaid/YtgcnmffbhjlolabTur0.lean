/-
A table of functions: stored, and read by its number. No statement is proved here.
-/
import Derived.Test.YtgcnmffbhjlolabRows
import Derived.Test.YtgcnmffbhjlolabKit
import Derived.Laws.PanicsMore
namespace Go.Proofs.Ytgcnmffbhjlolab
open Go.RowKit

theorem store_func (w : World) (a : Addr) (fn : Fn) (first cap : Array Value) (m : Mode) : (store a (.func fn first cap) m).run Try.prog w = stored Try.prog w a (.func fn first cap) m := run_store Try.prog w a _ m rfl
def quads : Array Value := #[.func (.func 92) #[] #[], .func (.func 93) #[] #[], .func (.func 94) #[] #[], .func (.func 95) #[] #[]]
theorem index_quads (w : World) (i : Nat) (hi : i < 4) (v : Value) (hv : quads[i]? = some v) : (Instr.index 129 (.agg quads) (.int .i64 (i : Int))).run Try.prog w = .ok v w := by
  have h4 : (0 : Int) ≤ (i : Int) ∧ (i : Int) < 4 := by omega
  match i, hi, hv with
  | 0, _, hv => obtain rfl : _ = v := by simpa [quads] using hv
                simp [Instr.index, run_underlying Try.underlying129, asIntOf, quads, go_sem]
  | 1, _, hv => obtain rfl : _ = v := by simpa [quads] using hv
                simp [Instr.index, run_underlying Try.underlying129, asIntOf, quads, go_sem]
  | 2, _, hv => obtain rfl : _ = v := by simpa [quads] using hv
                simp [Instr.index, run_underlying Try.underlying129, asIntOf, quads, go_sem]
  | 3, _, hv => obtain rfl : _ = v := by simpa [quads] using hv
                simp [Instr.index, run_underlying Try.underlying129, asIntOf, quads, go_sem]
end Go.Proofs.Ytgcnmffbhjlolab
