/-
Contracts of quot's quotients of 64 bits: Mod. No statement is proved here.
-/
import Derived.Test.YtehkccogbgjcaaaQuoF
namespace Go.Proofs.Ytehkccogbgjcaaa
open Go.RowKit

theorem QMod_zero (a : Int) (w : World) : Calls Try.prog 13 #[.int .i64 a, .int .i64 0] w (Pair w 0 false) := by
  go_enter Try.func13, Try.ntmps13
  go_wp2_with fail
  refine bodyPost_ret (v := .tuple #[.int .i64 0, .bool false]) (by simp [results, Try.results13, go_sem]) rfl ⟨rfl, rfl⟩
theorem QMod_some (a b r : Int) (w : World) (hb : ¬ b = 0) (h0 : (b == 0) = false) (hr : Int.tmod a b = r)
    (z : Int) (s3 : Bool) (e3 : decide (b < 0) = s3) (f1 : r = 0 → 0 = z) (f2 : r ≠ 0 → decide (r < 0) = s3 → r = z) (f3 : r ≠ 0 → decide (r < 0) ≠ s3 → wrap64 (r + b) = z) :
    Calls Try.prog 13 #[.int .i64 a, .int .i64 b] w (Pair w z true) := by
  have F1 := hide f1
  have F2 := hide f2
  have F3 := hide f3
  clear f1 f2 f3
  go_enter Try.func13, Try.ntmps13
  go_wp2_with fail
  · refine bodyPost_ret (v := .tuple #[.int .i64 0, .bool true]) (by simp [results, Try.results13, go_sem]) rfl ⟨by rw [F1.out (by assumption)], rfl⟩
  · rename_i k1 k2
    refine bodyPost_ret (v := .tuple #[.int .i64 (wrap64 (r + b)), .bool true]) (by simp [results, Try.results13, go_sem]) rfl ⟨by rw [F3.out k1 (by simpa using k2.2)], rfl⟩
  · rename_i k1 k2
    refine bodyPost_ret (v := .tuple #[.int .i64 r, .bool true]) (by simp [results, Try.results13, go_sem]) rfl ⟨by rw [F2.out k1 (same_or k1 k2)], rfl⟩

/-- quot.Mod of any two int64 -/
theorem QMod_any (a b : Int) (w : World) (hb1 : -9223372036854775808 ≤ b ∧ b ≤ 9223372036854775807) (hb : b ≠ 0) :
    Calls Try.prog 13 #[.int .i64 a, .int .i64 b] w (Pair w (a - Int.fdiv a b * b) true) := by
  have h1 := Int.mul_tdiv_add_tmod a b
  have h2 := tmod_small (a := a) hb
  obtain ⟨f1, f2, f3⟩ := floor_t (a := a) (b := b) hb
  refine QMod_some a b (a.tmod b) w hb (by simpa using hb) rfl _ _ rfl (fun k => ?_) (fun k e => ?_) fun k e => ?_
  · rw [← f1 k, Int.mul_comm]; omega
  · rw [← f2 k e, Int.mul_comm]; omega
  · have e' : ¬ (a.tmod b < 0 ↔ b < 0) := by simpa using e
    rw [← f3 k e, Int.sub_mul, Int.mul_comm, IntWalk.wrap64_in _ (by omega)]; omega

end Go.Proofs.Ytehkccogbgjcaaa
