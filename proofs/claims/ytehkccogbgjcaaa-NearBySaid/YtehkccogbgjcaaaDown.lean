/-
Contract of the reference's quotient of two int64, rounded down. No statement is proved here.
-/
import Derived.Test.YtehkccogbgjcaaaRows
import Derived.Test.YtehkccogbgjcaaaQuoF
import Derived.Test.YtehkccogbgjcaaaInts
namespace Go.Proofs.Ytehkccogbgjcaaa
open Go.RowKit

theorem Down_some (a b q : Int) (w : World) (hb : ¬ b = 0) (hq : IntKind.i64.wrap (Int.tdiv a b) = q)
    (z : Int) (s3 : Bool) (e3 : decide (b < 0) = s3) (f1 : a.tmod b = 0 → q = z) (f2 : a.tmod b ≠ 0 → decide (a < 0) = s3 → q = z) (f3 : a.tmod b ≠ 0 → decide (a < 0) ≠ s3 → wrap64 (q - 1) = z) :
    Calls Try.prog 61 #[.int .i64 a, .int .i64 b] w fun e w' => e = .returned (.int .i64 z) ∧ w = w' := by
  have F1 := hide f1
  have F2 := hide f2
  have F3 := hide f3
  clear f1 f2 f3
  go_enter Try.func61, Try.ntmps61
  go_wp2_with fail
  · refine bodyPost_ret (v := .int .i64 q) (by simp [results, Try.results61, go_sem]) rfl ⟨by rw [F1.out (by assumption)], rfl⟩
  · rename_i k1 k2
    refine bodyPost_ret (v := .int .i64 (wrap64 (q - 1))) (by simp [results, Try.results61, go_sem]) rfl ⟨by rw [F3.out k1 (by simpa using k2.2)], rfl⟩
  · rename_i k1 k2
    refine bodyPost_ret (v := .int .i64 q) (by simp [results, Try.results61, go_sem]) rfl ⟨by rw [F2.out k1 (same_or k1 k2)], rfl⟩
/-- the reference's quotient of any two int64, rounded down -/
theorem Down_any (a b : Int) (w : World) (ha : isI64 a) (hb1 : isI64 b) (hb : b ≠ 0) (hr : ¬ (a = -9223372036854775808 ∧ b = -1)) :
    Calls Try.prog 61 #[.int .i64 a, .int .i64 b] w fun e w' => e = .returned (.int .i64 (Int.fdiv a b)) ∧ w = w' := by
  unfold isI64 at ha hb1
  have h1 := Int.mul_tdiv_add_tmod a b
  have h2 := tmod_small (a := a) hb
  have h3 : (a.tdiv b).natAbs = a.natAbs / b.natAbs := Int.natAbs_tdiv a b
  have hq : -9223372036854775808 ≤ a.tdiv b ∧ a.tdiv b ≤ 9223372036854775807 ∧ (a.tmod b ≠ 0 → -4611686018427387904 ≤ a.tdiv b) := by
    by_cases b1 : b.natAbs = 1
    · rcases (show b = 1 ∨ b = -1 by omega) with rfl | rfl
      · rw [Int.tdiv_one]
        refine ⟨by omega, by omega, fun h => ?_⟩
        omega
      · rw [Int.tdiv_neg, Int.tdiv_one]
        refine ⟨by omega, by omega, fun h => ?_⟩
        omega
    · have h5 : a.natAbs / b.natAbs ≤ a.natAbs / 2 := Nat.div_le_div_left (by omega) (by omega)
      omega
  have hs : a.tmod b ≠ 0 → decide (a < 0) = decide (a.tmod b < 0) := by
    intro k
    rcases Int.lt_or_le a 0 with q | q
    · have := Int.tmod_nonneg b (show 0 ≤ -a by omega)
      rw [Int.neg_tmod] at this
      rw [decide_eq_true q, decide_eq_true (by omega)]
    · have := Int.tmod_nonneg b q
      rw [decide_eq_false (by omega), decide_eq_false (by omega)]
  obtain ⟨f1, f2, f3⟩ := floor_t (a := a) (b := b) hb
  refine Down_some a b (a.tdiv b) w hb (IntWalk.i64_in _ (by omega)) (Int.fdiv a b) _ rfl f1 (fun k e => f2 k (by rw [← hs k, e])) fun k e => ?_
  rw [← f3 k (by rw [← hs k]; exact e), IntWalk.wrap64_in _ (by have := hq.2.2 k; omega)]
end Go.Proofs.Ytehkccogbgjcaaa
