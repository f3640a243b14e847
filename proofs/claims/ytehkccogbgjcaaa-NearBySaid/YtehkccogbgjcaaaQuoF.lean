/-
Contracts of quot's quotients of 64 bits: Floor. No statement is proved here.
-/
import Derived.Test.YtehkccogbgjcaaaRows
import Derived.Test.YtehkccogbgjcaaaKit
import Derived.Test.YtehkccogbgjcaaaFlo0
import Derived.IntWalk
namespace Go.Proofs.Ytehkccogbgjcaaa
open Go.RowKit

def Pair (w : World) (x : Int) (b : Bool) (e : Ending) (w' : World) : Prop := e = .returned (.tuple #[.int .i64 x, .bool b]) ∧ w = w'

theorem QFloor_zero (a : Int) (w : World) : Calls Try.prog 12 #[.int .i64 a, .int .i64 0] w (Pair w 0 false) := by
  go_enter Try.func12, Try.ntmps12
  go_wp2_with fail
  refine bodyPost_ret (v := .tuple #[.int .i64 0, .bool false]) (by simp [results, Try.results12, go_sem]) rfl ⟨rfl, rfl⟩
theorem QFloor_run (w : World) : Calls Try.prog 12 #[.int .i64 (-9223372036854775808), .int .i64 (-1)] w (Pair w 0 false) := by
  go_enter Try.func12, Try.ntmps12
  go_wp2_with fail
  refine bodyPost_ret (v := .tuple #[.int .i64 0, .bool false]) (by simp [results, Try.results12, go_sem]) rfl ⟨rfl, rfl⟩
theorem tmod_small {a b : Int} (hb : ¬ b = 0) : (a.tmod b).natAbs < b.natAbs := by
  rw [Int.natAbs_tmod]; exact Nat.mod_lt _ (by omega)
theorem floor_t {a b : Int} (hb : ¬ b = 0) : (a.tmod b = 0 → a.tdiv b = Int.fdiv a b) ∧ (a.tmod b ≠ 0 → decide (a.tmod b < 0) = decide (b < 0) → a.tdiv b = Int.fdiv a b) ∧
    (a.tmod b ≠ 0 → decide (a.tmod b < 0) ≠ decide (b < 0) → a.tdiv b - 1 = Int.fdiv a b) := by
  have h1 := Int.mul_tdiv_add_tmod a b
  have h2 := tmod_small (a := a) hb
  generalize a.tdiv b = q at *
  generalize a.tmod b = r at *
  refine ⟨fun h => (floor_unique (r := r) (by rw [Int.mul_comm]; omega) (by omega)).symm, fun h e => (floor_unique (r := r) (by rw [Int.mul_comm]; omega) ?_).symm, fun h e => (floor_unique (r := r + b) (by rw [Int.sub_mul, Int.mul_comm]; omega) ?_).symm⟩
  · have : (r < 0) ↔ (b < 0) := by simpa using e
    omega
  · have : ¬ ((r < 0) ↔ (b < 0)) := by simpa using e
    omega

theorem same_or {t : Int} {x y : Bool} (k1 : ¬ t = 0) (k2 : (t != 0) = false ∨ (!x == y) = false) : x = y := by
  rcases k2 with k2 | k2
  · exact absurd (by simpa using k2) k1
  · cases x <;> cases y <;> simp_all
theorem QFloor_some (a b q : Int) (w : World) (g : Bool) (hb : ¬ b = 0) (h0 : (b == 0) = false) (h1 : (a == -9223372036854775808) = g) (h2 : g = true → (b == -1) = false) (hq : IntKind.i64.wrap (Int.tdiv a b) = q)
    (z : Int) (s3 : Bool) (e3 : decide (b < 0) = s3) (f1 : a.tmod b = 0 → q = z) (f2 : a.tmod b ≠ 0 → decide (a.tmod b < 0) = s3 → q = z) (f3 : a.tmod b ≠ 0 → decide (a.tmod b < 0) ≠ s3 → wrap64 (q - 1) = z) :
    Calls Try.prog 12 #[.int .i64 a, .int .i64 b] w (Pair w z true) := by
  have F1 := hide f1
  have F2 := hide f2
  have F3 := hide f3
  clear f1 f2 f3
  go_enter Try.func12, Try.ntmps12
  cases g
  all_goals
    go_wp2_with fail
    · refine bodyPost_ret (v := .tuple #[.int .i64 q, .bool true]) (by simp [results, Try.results12, go_sem]) rfl ⟨by rw [F1.out (by assumption)], rfl⟩
    · rename_i k1 k2
      refine bodyPost_ret (v := .tuple #[.int .i64 (wrap64 (q - 1)), .bool true]) (by simp [results, Try.results12, go_sem]) rfl ⟨by rw [F3.out k1 (by simpa using k2.2)], rfl⟩
    · rename_i k1 k2
      refine bodyPost_ret (v := .tuple #[.int .i64 q, .bool true]) (by simp [results, Try.results12, go_sem]) rfl ⟨by rw [F2.out k1 (same_or k1 k2)], rfl⟩

/-- quot.Floor of any two int64 -/
theorem QFloor_any (a b : Int) (w : World) (ha : -9223372036854775808 ≤ a ∧ a ≤ 9223372036854775807) (hb1 : -9223372036854775808 ≤ b ∧ b ≤ 9223372036854775807) (hb : b ≠ 0) (hr : ¬ (a = -9223372036854775808 ∧ b = -1)) :
    Calls Try.prog 12 #[.int .i64 a, .int .i64 b] w (Pair w (Int.fdiv a b) true) := by
  have h1 := Int.mul_tdiv_add_tmod a b
  have h2 := tmod_small (a := a) hb
  have h3 : (a.tdiv b).natAbs = a.natAbs / b.natAbs := Int.natAbs_tdiv a b
  have hq : -9223372036854775808 ≤ a.tdiv b ∧ a.tdiv b ≤ 9223372036854775807 ∧ (a.tmod b ≠ 0 → -4611686018427387904 ≤ a.tdiv b) := by
    by_cases b1 : b.natAbs = 1
    · rcases (show b = 1 ∨ b = -1 by omega) with rfl | rfl
      · rw [Int.tdiv_one]
        refine ⟨by omega, by omega, fun h => ?_⟩
        omega
      · rw [Int.tdiv_neg, Int.tdiv_one]
        refine ⟨by omega, by omega, fun h => ?_⟩
        omega
    · have h5 : a.natAbs / b.natAbs ≤ a.natAbs / 2 := Nat.div_le_div_left (by omega) (by omega)
      omega
  obtain ⟨f1, f2, f3⟩ := floor_t (a := a) (b := b) hb
  refine QFloor_some a b (a.tdiv b) w (a == -9223372036854775808) hb (by simpa using hb) rfl ?_ (IntWalk.i64_in _ (by omega)) (Int.fdiv a b) _ rfl f1 f2 fun k e => ?_
  · intro h
    have h' : a = -9223372036854775808 := by simpa using h
    simp
    intro hb'
    exact hr ⟨h', hb'⟩
  · rw [← f3 k e, IntWalk.wrap64_in _ (by have := hq.2.2 k; omega)]

/-- what is left of a quotient, rounded down -/
theorem floor_left {a b : Int} (hb : ¬ b = 0) : (0 ≤ a - Int.fdiv a b * b ∧ a - Int.fdiv a b * b < b) ∨ (b < a - Int.fdiv a b * b ∧ a - Int.fdiv a b * b ≤ 0) := by
  have h1 := Int.mul_tdiv_add_tmod a b
  have h2 := tmod_small (a := a) hb
  obtain ⟨f1, f2, f3⟩ := floor_t (a := a) (b := b) hb
  by_cases k : a.tmod b = 0
  · rw [← f1 k, Int.mul_comm]; omega
  · by_cases e : decide (a.tmod b < 0) = decide (b < 0)
    · rw [← f2 k e, Int.mul_comm]
      have e' : (a.tmod b < 0 ↔ b < 0) := by simpa using e
      omega
    · rw [← f3 k e, Int.sub_mul, Int.mul_comm]
      have e' : ¬ (a.tmod b < 0 ↔ b < 0) := by simpa using e
      omega
end Go.Proofs.Ytehkccogbgjcaaa
