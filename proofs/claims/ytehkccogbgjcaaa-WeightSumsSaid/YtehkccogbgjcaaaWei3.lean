/-
Weights: all of them together; the chapter's example. No statement is proved here.
-/
import Derived.Test.YtehkccogbgjcaaaWei1
import Derived.Test.YtehkccogbgjcaaaWei2
namespace Go.Proofs.Ytehkccogbgjcaaa
open Go.RowKit

theorem mul_bound {a v B : Int} (ha : -B ≤ a ∧ a ≤ B) (hv : 0 ≤ v ∧ v ≤ 255) (hB : 0 ≤ B) : -(B * 255) ≤ a * v ∧ a * v ≤ B * 255 := by
  have h1 : -B * v ≤ a * v := Int.mul_le_mul_of_nonneg_right ha.1 hv.1
  have h2 : a * v ≤ B * v := Int.mul_le_mul_of_nonneg_right ha.2 hv.1
  have h3 : B * v ≤ B * 255 := Int.mul_le_mul_of_nonneg_left hv.2 hB
  have h4 : -B * v = -(B * v) := Int.neg_mul _ _
  omega
theorem mix4 {a b c d v : Int} (ha : -33554432 ≤ a ∧ a ≤ 33554432) (hb : -33554432 ≤ b ∧ b ≤ 33554432) (hc : -33554432 ≤ c ∧ c ≤ 33554432) (hd : -33554432 ≤ d ∧ d ≤ 33554432) (hs : a + b + c + d = 33554432) (hv : 0 ≤ v ∧ v ≤ 255) :
    mixK [a, b, c, d] [v, v, v, v] 4 = 33554432 * v := by
  have m1 := mul_bound ha hv (by decide)
  have m2 := mul_bound hb hv (by decide)
  have m3 := mul_bound hc hv (by decide)
  have m4 := mul_bound hd hv (by decide)
  have e : a * v + b * v + c * v + d * v = 33554432 * v := by rw [← Int.add_mul, ← Int.add_mul, ← Int.add_mul, hs]
  simp only [mixK, List.getD_cons_zero, List.getD_cons_succ]
  rw [← e]
  generalize a * v = p at *
  generalize b * v = q at *
  generalize c * v = r at *
  generalize d * v = s at *
  rw [IntWalk.wrap64_in p (by omega), IntWalk.wrap64_in q (by omega), IntWalk.wrap64_in r (by omega), IntWalk.wrap64_in s (by omega), Int.zero_add, IntWalk.wrap64_in p (by omega), IntWalk.wrap64_in (p + q) (by omega), IntWalk.wrap64_in (p + q + r) (by omega), IntWalk.wrap64_in (p + q + r + s) (by omega)]
theorem byte_scale {v : Int} (hv : 0 ≤ v ∧ v ≤ 255) : byteZ (33554432 * v) 33554432 = v := by
  unfold byteZ
  rw [if_neg (by decide), Int.fdiv_eq_ediv_of_nonneg _ (by decide)]
  omega
/-- the bytes of a block just laid -/
theorem BY.own4 {w : World} {g : Nat} {v : Int} (h : Bx w g [.int .u8 v, .int .u8 v, .int .u8 v, .int .u8 v]) (hv : 0 ≤ v ∧ v ≤ 255) : BY w (some ⟨g, 0, none⟩) 4 4 [v, v, v, v] :=
  ⟨rfl, Nat.le_refl 4, by decide, fun x hx => by simp at hx; subst hx; exact hv, fun _ => ⟨g, 0, rfl, h.1, fun i hi => by
    rw [Nat.zero_add]
    rcases (show i = 0 ∨ i = 1 ∨ i = 2 ∨ i = 3 by omega) with rfl | rfl | rfl | rfl
    · exact (h.2 0 _ rfl).1
    · exact (h.2 1 _ rfl).1
    · exact (h.2 2 _ rfl).1
    · exact (h.2 3 _ rfl).1⟩⟩
theorem IY.own4 {w : World} {g : Nat} {a b c d : Int} (h : Bx w g [.int .i64 a, .int .i64 b, .int .i64 c, .int .i64 d]) (hx : isI64 a ∧ isI64 b ∧ isI64 c ∧ isI64 d) : IY w (some ⟨g, 0, none⟩) 4 4 [a, b, c, d] :=
  IY.own (xs := [a, b, c, d]) h (by intro x k; simp at k; rcases k with rfl | rfl | rfl | rfl; exact hx.1; exact hx.2.1; exact hx.2.2.1; exact hx.2.2.2) 4 (Nat.le_refl 4) (by decide)

set_option maxRecDepth 100000 in
set_option maxHeartbeats 2000000 in
theorem alive27_any (w : World) : Calls Try.prog 22 #[] w (Says w (.bool true)) := by
  have H1 := hide (fun w => WLinear_yes 16384 (by decide) (by decide) w)
  have H2 := hide (fun w => WCubic_yes 0 (by decide) (by decide) w)
  have HB := hide (Below.refl w.heap.size w)
  have e1 : outerZ 0 = 0 := by decide
  have e2 : innerZ 0 = 33554432 := by decide
  have e3 : innerZ (256 - 0) = 0 := by decide
  have e4 : outerZ (256 - 0) = 0 := by decide
  rw [e1, e2, e3, e4] at H2
  clear e1 e2 e3 e4
  have hq1 : ∀ w : World, (binOp .eql 34 (.agg #[.int .i64 49152, .int .i64 16384]) (.agg #[.int .i64 49152, .int .i64 16384])).run Try.prog w = Result.ok (.bool true) w := fun w => by kernel_rfl
  have hq2 : ∀ w : World, (binOp .eql 38 (.agg #[.int .i64 0, .int .i64 33554432, .int .i64 0, .int .i64 0]) (.agg #[.int .i64 0, .int .i64 33554432, .int .i64 0, .int .i64 0])).run Try.prog w = Result.ok (.bool true) w := fun w => by kernel_rfl
  go_enter Try.func22, Try.ntmps22
  go_wp2_with fail
  refine (H1.out _).mono ?_
  rintro e w1 ⟨rfl, hb1⟩
  have HB1 := hide (HB.out.trans (hb1.mono (Nat.le_refl _)))
  clear hb1
  go_wp2_with fail
  refine (H2.out _).mono ?_
  rintro e w2 ⟨rfl, hb2⟩
  have HB2 := hide (HB1.out.alloc HB1.out.size (.cells #[.int .i64 49152, .int .i64 16384] 34) |>.trans (hb2.mono (by have := HB1.out.size; simp; omega)))
  obtain ⟨_, c0, c1, _, _⟩ := ((Bx.at (w := w1) (g := w1.heap.size) [.int .i64 49152, .int .i64 16384] 34 rfl).below hb2).two
  have hz : w1.heap.size < w2.heap.size := by have := hb2.size; simp at this; omega
  clear hb2
  go_wp2_with fail
  go_ret
  exact ⟨rfl, HB2.out.alloc HB2.out.size _⟩

end Go.Proofs.Ytehkccogbgjcaaa
