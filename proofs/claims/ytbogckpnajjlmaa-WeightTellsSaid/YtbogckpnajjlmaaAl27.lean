/-
Layer 27's fixed facts. No statement is proved here.
-/
import Derived.Test.YtbogckpnajjlmaaWei1
namespace Go.Proofs.Ytbogckpnajjlmaa
open Go.RowKit

set_option maxRecDepth 100000 in
set_option maxHeartbeats 2000000 in
theorem alive27_any (w : World) : Calls Try.prog 27 #[] w (Says w (.bool true)) := by
  have H1 := hide (fun w => WLinear_yes 16384 (by decide) (by decide) w)
  have H2 := hide (fun w => WCubic_yes 0 (by decide) (by decide) w)
  have HB := hide (Below.refl w.heap.size w)
  have e1 : outerZ 0 = 0 := by decide
  have e2 : innerZ 0 = 33554432 := by decide
  have e3 : innerZ (256 - 0) = 0 := by decide
  have e4 : outerZ (256 - 0) = 0 := by decide
  rw [e1, e2, e3, e4] at H2
  clear e1 e2 e3 e4
  have hq1 : ∀ w : World, (binOp .eql 50 (.agg #[.int .i64 49152, .int .i64 16384]) (.agg #[.int .i64 49152, .int .i64 16384])).run Try.prog w = Result.ok (.bool true) w := fun w => by kernel_rfl
  have hq2 : ∀ w : World, (binOp .eql 53 (.agg #[.int .i64 0, .int .i64 33554432, .int .i64 0, .int .i64 0]) (.agg #[.int .i64 0, .int .i64 33554432, .int .i64 0, .int .i64 0])).run Try.prog w = Result.ok (.bool true) w := fun w => by kernel_rfl
  go_enter Try.func27, Try.ntmps27
  go_wp2_with fail
  refine (H1.out _).mono ?_
  rintro e w1 ⟨rfl, hb1⟩
  have HB1 := hide (HB.out.trans (hb1.mono (Nat.le_refl _)))
  clear hb1
  go_wp2_with fail
  refine (H2.out _).mono ?_
  rintro e w2 ⟨rfl, hb2⟩
  have HB2 := hide (HB1.out.alloc HB1.out.size (.cells #[.int .i64 49152, .int .i64 16384] 50) |>.trans (hb2.mono (by have := HB1.out.size; simp; omega)))
  obtain ⟨_, c0, c1, _, _⟩ := ((Bx.at (w := w1) (g := w1.heap.size) [.int .i64 49152, .int .i64 16384] 50 rfl).below hb2).two
  have hz : w1.heap.size < w2.heap.size := by have := hb2.size; simp at this; omega
  clear hb2
  go_wp2_with fail
  go_ret
  exact ⟨rfl, HB2.out.alloc HB2.out.size _⟩

end Go.Proofs.Ytbogckpnajjlmaa
