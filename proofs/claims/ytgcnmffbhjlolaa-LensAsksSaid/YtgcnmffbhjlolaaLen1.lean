/-
Contracts of lenses: the smallest calls of the package and of the reference. No statement is proved here.
-/
import Derived.Test.YtgcnmffbhjlolaaRows
import Derived.Test.YtgcnmffbhjlolaaQuoF
import Derived.Test.YtgcnmffbhjlolaaLen0
import Derived.Test.YtgcnmffbhjlolaaInts
import Derived.BigQuiet
import Derived.LoopTactic
import Derived.Deep.QuietTactic
namespace Go.Proofs.Ytgcnmffbhjlolaa
open Go.RowKit

theorem allIn_succ {xs : List Int} {m : Int} {k : Nat} (h : ∀ j, j < k → InZ (xs.getD j 0) m) (e : InZ (xs.getD k 0) m) : ∀ j, j < k + 1 → InZ (xs.getD j 0) m := fun j hj => by
  rcases Nat.lt_or_ge j k with h1 | h1
  · exact h j h1
  · obtain rfl : j = k := by omega
    exact e
theorem allIn_iff {xs : List Int} {m : Int} : (∀ x ∈ xs, InZ x m) ↔ ∀ j, j < xs.length → InZ (xs.getD j 0) m := by
  constructor
  · intro h j hj
    rw [List.getD_eq_getElem?_getD, List.getElem?_eq_getElem hj]
    exact h _ (List.getElem_mem hj)
  · intro h x hx
    obtain ⟨j, hj, rfl⟩ := List.getElem_of_mem hx
    have := h j hj
    rwa [List.getD_eq_getElem?_getD, List.getElem?_eq_getElem hj] at this

set_option maxHeartbeats 1000000 in
theorem within_any (m : Int) (A : Option Addr) (n c : Nat) (xs : List Int) (w : World) (h : IY w A n c xs) (hm : 0 ≤ m ∧ m ≤ 9223372036854775807) :
    Calls Try.prog 31 #[.int .i64 m, .slice A n c] w fun e w' => e = .returned (.bool (decide (∀ x ∈ xs, InZ x m))) ∧ w = w' := by
  have hz : n ≤ 9223372036854775807 := by have := h.2.1; have := h.2.2.1; unfold maxLen at this; omega
  have hw : wrap64 (-m) = -m := IntWalk.wrap64_in _ (by omega)
  have HB := hide h
  obtain ⟨g, hg⟩ : ∃ g, decide (∀ x ∈ xs, InZ x m) = g := ⟨_, rfl⟩
  have HG := Lib.hid hg
  rw [hg]
  clear hg h
  go_enter Try.func31, Try.ntmps31
  go_wp2_with fail
  go_loopw [9] (fun i wr => ∃ k : Nat, k ≤ n ∧ i = .int .i64 k ∧ (∀ j, j < k → InZ (xs.getD j 0) m) ∧ w = wr) (fun i _ => n - (intOf i).toNat)
  case atStart => exact ⟨0, Nat.zero_le _, rfl, fun j hj => absurd hj (by omega), rfl⟩
  case round =>
    obtain ⟨k, hk, rfl, hA, rfl⟩ := hrel
    have HA := hide hA
    clear hA
    by_cases hlt : k < n
    · obtain ⟨p, o, rfl, _, hc⟩ := HB.out.2.2.2.2 (by omega)
      have c1 := hc k hlt
      clear hc
      have i0 : (0 : Int) ≤ (k : Int) := by omega
      have i1 : (k : Int) < (n : Int) := by omega
      obtain ⟨u, hu⟩ : ∃ u, xs.getD k 0 = u := ⟨_, rfl⟩
      have HU := Lib.hid hu
      rw [hu] at c1
      clear hu
      by_cases a1 : u < -m
      · have hf : g = false := by
          rw [← HG.out, decide_eq_false_iff_not, allIn_iff]
          intro hall
          have := (hall k (by rw [HB.out.1]; exact hlt)).1
          rw [HU.out] at this; omega
        subst hf
        go_wp2_with fail
        go_ret
        exact ⟨rfl, rfl⟩
      · by_cases a2 : m < u
        · have hf : g = false := by
            rw [← HG.out, decide_eq_false_iff_not, allIn_iff]
            intro hall
            have := (hall k (by rw [HB.out.1]; exact hlt)).2
            rw [HU.out] at this; omega
          subst hf
          go_wp2_with fail
          go_ret
          exact ⟨rfl, rfl⟩
        · have HS := hide (allIn_succ HA.out (by rw [HU.out]; exact ⟨by omega, by omega⟩))
          go_wp2_with fail
          go_roundw
          case rel => exact ⟨k + 1, by omega, by go_num, HS.out, trivial⟩
          case measure => simp [intOf]; omega
    · obtain rfl : k = n := by omega
      have hf : g = true := by
        rw [← HG.out, decide_eq_true_iff, allIn_iff, HB.out.1]
        exact HA.out
      subst hf
      go_wp2_with fail
      go_ret
      exact ⟨rfl, rfl⟩

/-- lens.down -/
theorem LDown_any (a : Int) (w : World) (ha : isI64 a) : Calls Try.prog 34 #[.int .i64 a] w fun e w' => e = .returned (.int .i64 (Int.fdiv a 65536)) ∧ w = w' := by
  have H := hide (QFloor_any a 65536 w ha (by decide) (by decide) (by omega))
  clear ha
  go_enter Try.func34, Try.ntmps34
  go_wp2_with fail
  refine H.out.mono ?_
  rintro e w1 ⟨rfl, rfl⟩
  go_wp2_with fail
  go_ret
  exact ⟨rfl, rfl⟩

theorem Down_some (a b q : Int) (w : World) (hb : ¬ b = 0) (hq : IntKind.i64.wrap (Int.tdiv a b) = q)
    (z : Int) (s3 : Bool) (e3 : decide (b < 0) = s3) (f1 : a.tmod b = 0 → q = z) (f2 : a.tmod b ≠ 0 → decide (a < 0) = s3 → q = z) (f3 : a.tmod b ≠ 0 → decide (a < 0) ≠ s3 → wrap64 (q - 1) = z) :
    Calls Try.prog 33 #[.int .i64 a, .int .i64 b] w fun e w' => e = .returned (.int .i64 z) ∧ w = w' := by
  have F1 := hide f1
  have F2 := hide f2
  have F3 := hide f3
  clear f1 f2 f3
  go_enter Try.func33, Try.ntmps33
  go_wp2_with fail
  · refine bodyPost_ret (v := .int .i64 q) (by simp [results, Try.results33, go_sem]) rfl ⟨by rw [F1.out (by assumption)], rfl⟩
  · rename_i k1 k2
    refine bodyPost_ret (v := .int .i64 (wrap64 (q - 1))) (by simp [results, Try.results33, go_sem]) rfl ⟨by rw [F3.out k1 (by simpa using k2.2)], rfl⟩
  · rename_i k1 k2
    refine bodyPost_ret (v := .int .i64 q) (by simp [results, Try.results33, go_sem]) rfl ⟨by rw [F2.out k1 (same_or k1 k2)], rfl⟩
/-- the reference's quotient of any two int64, rounded down -/
theorem Down_any (a b : Int) (w : World) (ha : isI64 a) (hb1 : isI64 b) (hb : b ≠ 0) (hr : ¬ (a = -9223372036854775808 ∧ b = -1)) :
    Calls Try.prog 33 #[.int .i64 a, .int .i64 b] w fun e w' => e = .returned (.int .i64 (Int.fdiv a b)) ∧ w = w' := by
  unfold isI64 at ha hb1
  have h1 := Int.mul_tdiv_add_tmod a b
  have h2 := tmod_small (a := a) hb
  have h3 : (a.tdiv b).natAbs = a.natAbs / b.natAbs := Int.natAbs_tdiv a b
  have hq : -9223372036854775808 ≤ a.tdiv b ∧ a.tdiv b ≤ 9223372036854775807 ∧ (a.tmod b ≠ 0 → -4611686018427387904 ≤ a.tdiv b) := by
    by_cases b1 : b.natAbs = 1
    · rcases (show b = 1 ∨ b = -1 by omega) with rfl | rfl
      · rw [Int.tdiv_one]
        refine ⟨by omega, by omega, fun h => ?_⟩
        omega
      · rw [Int.tdiv_neg, Int.tdiv_one]
        refine ⟨by omega, by omega, fun h => ?_⟩
        omega
    · have h5 : a.natAbs / b.natAbs ≤ a.natAbs / 2 := Nat.div_le_div_left (by omega) (by omega)
      omega
  have hs : a.tmod b ≠ 0 → decide (a < 0) = decide (a.tmod b < 0) := by
    intro k
    rcases Int.lt_or_le a 0 with q | q
    · have := Int.tmod_nonneg b (show 0 ≤ -a by omega)
      rw [Int.neg_tmod] at this
      rw [decide_eq_true q, decide_eq_true (by omega)]
    · have := Int.tmod_nonneg b q
      rw [decide_eq_false (by omega), decide_eq_false (by omega)]
  obtain ⟨f1, f2, f3⟩ := floor_t (a := a) (b := b) hb
  refine Down_some a b (a.tdiv b) w hb (IntWalk.i64_in _ (by omega)) (Int.fdiv a b) _ rfl f1 (fun k e => f2 k (by rw [← hs k, e])) fun k e => ?_
  rw [← f3 k (by rw [← hs k]; exact e), IntWalk.wrap64_in _ (by have := hq.2.2 k; omega)]
end Go.Proofs.Ytgcnmffbhjlolaa
