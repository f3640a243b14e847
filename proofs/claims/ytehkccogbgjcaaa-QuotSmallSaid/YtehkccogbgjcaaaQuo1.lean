/-
Contracts of quot's quotients of 64 bits: Near. No statement is proved here.
-/
import Derived.Test.YtehkccogbgjcaaaQuo0
namespace Go.Proofs.Ytehkccogbgjcaaa
open Go.RowKit

theorem near_floor {a b q r : Int} (h : a - q * b = r) (hr : (0 ≤ r ∧ r < b) ∨ (b < r ∧ r ≤ 0)) : Int.fdiv (a + a + b) (b + b) = if b.natAbs ≤ 2 * r.natAbs then q + 1 else q := by
  have h2 : q * (b + b) = q * b + q * b := Int.mul_add _ _ _
  split
  · exact floor_unique (r := 2 * r - b) (by rw [Int.add_mul, h2]; omega) (by omega)
  · exact floor_unique (r := 2 * r + b) (by rw [h2]; omega) (by omega)

theorem half_any (r b : Int) (w : World) (hr : (0 ≤ r ∧ r < b) ∨ (b < r ∧ r ≤ 0)) (hb : -9223372036854775808 ≤ b ∧ b ≤ 9223372036854775807) (x : Bool) (hx : decide (b.natAbs ≤ 2 * r.natAbs) = x) : Calls Try.prog 50 #[.int .i64 r, .int .i64 b] w fun e w' => e = .returned (.bool x) ∧ w = w' := by
  obtain ⟨y, hy⟩ : ∃ y, decide (b < 0) = y := ⟨_, rfl⟩
  have hw : wrap64 (b - r) = b - r := IntWalk.wrap64_in _ (by omega)
  cases y
  · have hfin : decide (wrap64 (b - r) ≤ r) = x := by rw [← hx, hw]; have := of_decide_eq_false hy; exact decide_eq_decide.2 (by omega)
    clear hr hx hb hw
    go_enter Try.func50, Try.ntmps50
    go_wp2_with fail
    refine bodyPost_ret (v := .bool x) (by simp [results, Try.results50, go_sem]) rfl ⟨rfl, rfl⟩
  · have hfin : decide (r ≤ wrap64 (b - r)) = x := by rw [← hx, hw]; have := of_decide_eq_true hy; exact decide_eq_decide.2 (by omega)
    clear hr hx hb hw
    go_enter Try.func50, Try.ntmps50
    go_wp2_with fail
    refine bodyPost_ret (v := .bool x) (by simp [results, Try.results50, go_sem]) rfl ⟨rfl, rfl⟩

theorem QNear_zero (a : Int) (w : World) : Calls Try.prog 14 #[.int .i64 a, .int .i64 0] w (Pair w 0 false) := by
  have H := hide (QFloor_zero a w)
  go_enter Try.func14, Try.ntmps14
  go_wp2_with fail
  refine H.out.mono ?_
  rintro e w1 ⟨rfl, rfl⟩
  go_wp2_with fail
  refine bodyPost_ret (v := .tuple #[.int .i64 0, .bool false]) (by simp [results, Try.results14, go_sem]) rfl ⟨rfl, rfl⟩
theorem QNear_run (w : World) : Calls Try.prog 14 #[.int .i64 (-9223372036854775808), .int .i64 (-1)] w (Pair w 0 false) := by
  have H := hide (QFloor_run w)
  go_enter Try.func14, Try.ntmps14
  go_wp2_with fail
  refine H.out.mono ?_
  rintro e w1 ⟨rfl, rfl⟩
  go_wp2_with fail
  refine bodyPost_ret (v := .tuple #[.int .i64 0, .bool false]) (by simp [results, Try.results14, go_sem]) rfl ⟨rfl, rfl⟩
theorem QNear_some (a b q r z : Int) (w : World) (x : Bool) (hF : Calls Try.prog 12 #[.int .i64 a, .int .i64 b] w (Pair w q true)) (hM : Calls Try.prog 13 #[.int .i64 a, .int .i64 b] w (Pair w r true))
    (hH : Calls Try.prog 50 #[.int .i64 r, .int .i64 b] w fun e w' => e = .returned (.bool x) ∧ w = w') (f1 : x = false → q = z) (f2 : x = true → wrap64 (q + 1) = z) :
    Calls Try.prog 14 #[.int .i64 a, .int .i64 b] w (Pair w z true) := by
  have F := hide hF
  have M := hide hM
  have H := hide hH
  have F1 := hide f1
  have F2 := hide f2
  clear hF hM hH f1 f2
  go_enter Try.func14, Try.ntmps14
  go_wp2_with fail
  refine F.out.mono ?_
  rintro e w1 ⟨rfl, rfl⟩
  go_wp2_with fail
  refine M.out.mono ?_
  rintro e w1 ⟨rfl, rfl⟩
  go_wp2_with fail
  refine H.out.mono ?_
  rintro e w1 ⟨rfl, rfl⟩
  cases x
  · go_wp2_with fail
    refine bodyPost_ret (v := .tuple #[.int .i64 q, .bool true]) (by simp [results, Try.results14, go_sem]) rfl ⟨by rw [F1.out trivial], rfl⟩
  · go_wp2_with fail
    refine bodyPost_ret (v := .tuple #[.int .i64 (wrap64 (q + 1)), .bool true]) (by simp [results, Try.results14, go_sem]) rfl ⟨by rw [F2.out trivial], rfl⟩

theorem fdiv_in {a b : Int} (ha : -9223372036854775808 ≤ a ∧ a ≤ 9223372036854775807) (hb : b ≠ 0) :
    a - Int.fdiv a b * b ≠ 0 → -9223372036854775808 ≤ Int.fdiv a b ∧ Int.fdiv a b ≤ 4611686018427387904 := by
  intro hne
  have h1 := Int.mul_tdiv_add_tmod a b
  have h2 := tmod_small (a := a) hb
  have h3 : (a.tdiv b).natAbs = a.natAbs / b.natAbs := Int.natAbs_tdiv a b
  obtain ⟨f1, f2, f3⟩ := floor_t (a := a) (b := b) hb
  have k : a.tmod b ≠ 0 := by
    intro k
    apply hne
    rw [← f1 k, Int.mul_comm]; omega
  have b2 : 2 ≤ b.natAbs := by omega
  have h5 : a.natAbs / b.natAbs ≤ a.natAbs / 2 := Nat.div_le_div_left b2 (by omega)
  by_cases e : decide (a.tmod b < 0) = decide (b < 0)
  · rw [← f2 k e]; omega
  · rw [← f3 k e]; omega

/-- quot.Near of any two int64 -/
theorem QNear_any (a b : Int) (w : World) (ha : -9223372036854775808 ≤ a ∧ a ≤ 9223372036854775807) (hb1 : -9223372036854775808 ≤ b ∧ b ≤ 9223372036854775807) (hb : b ≠ 0) (hr : ¬ (a = -9223372036854775808 ∧ b = -1)) :
    Calls Try.prog 14 #[.int .i64 a, .int .i64 b] w (Pair w (Int.fdiv (a + a + b) (b + b)) true) := by
  have hl := floor_left (a := a) (b := b) hb
  have hn := near_floor (a := a) (b := b) rfl hl
  have hi := fdiv_in ha hb
  refine QNear_some a b (Int.fdiv a b) _ _ w (decide (b.natAbs ≤ 2 * (a - Int.fdiv a b * b).natAbs)) (QFloor_any a b w ha hb1 hb hr) (QMod_any a b w hb1 hb) (half_any _ b w hl hb1 _ rfl) (fun h => ?_) fun h => ?_
  · rw [hn, if_neg (of_decide_eq_false h)]
  · have h' := of_decide_eq_true h
    rw [hn, if_pos h', IntWalk.wrap64_in _ (by have := hi (by omega); omega)]
end Go.Proofs.Ytehkccogbgjcaaa
