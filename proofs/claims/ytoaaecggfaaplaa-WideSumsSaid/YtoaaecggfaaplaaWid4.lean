/-
Contracts of package wide: Neg, Mul, Scale. No statement is proved here.
-/
import Derived.Test.YtoaaecggfaaplaaWid3
namespace Go.Proofs.Ytoaaecggfaaplaa
open Go.RowKit

theorem sizeOf_any (hi : Int) (lo : Nat) (z : Int) (h : Num hi lo z) (w : World) :
    Calls Try.prog 42 #[.agg #[.int .i64 hi, .int .u64 lo]] w (SizPost w z.natAbs) := by
  by_cases h0 : 0 ≤ z
  · exact sizeOf_pos hi lo z.natAbs (by rw [Int.natAbs_of_nonneg h0]; exact h) w
  · exact sizeOf_neg hi lo z.natAbs (by rw [show -((z.natAbs : Nat) : Int) = z by omega]; exact h) (by omega) w

def MulPost (w : World) (p : Nat) (e : Ending) (w' : World) : Prop := ∃ hi lo : Nat, e = .returned (.tuple #[.int .u64 hi, .int .u64 lo]) ∧ Siz hi lo p ∧ w = w'
theorem Mul64_post (x y : Nat) (hx : x < 18446744073709551616) (hy : y < 18446744073709551616) (w : World) :
    Calls Try.prog 43 #[.int .u64 x, .int .u64 y] w (MulPost w (x * y)) := by
  refine (Mul64_any x y hx hy w).mono ?_
  rintro e w' ⟨rfl, rfl⟩
  refine ⟨_, _, rfl, ?_, rfl⟩
  have h1 : x * y < 18446744073709551616 * 18446744073709551616 := Nat.mul_lt_mul'' hx hy
  have h2 := Nat.div_lt_of_lt_mul h1
  have h3 := Nat.mod_lt (x * y) (show 0 < 18446744073709551616 by decide)
  have h4 := Nat.div_add_mod (x * y) 18446744073709551616
  refine ⟨h2, h3, ?_⟩
  rw [Nat.mul_comm]; exact h4
/-- the size that is signed: what comes of it -/
theorem plus_post (hi lo u : Nat) (h : Siz hi lo u) (hu : u < 170141183460469231731687303715884105728) : ∀ w, Calls Try.prog 52 #[.agg #[.int .u64 hi, .int .u64 lo]] w (NumPost2 w true u) := fun w => plus_yes hi lo u h hu w
theorem minus_post (hi lo u : Nat) (h : Siz hi lo u) (hu : u ≤ 170141183460469231731687303715884105728) : ∀ w, Calls Try.prog 53 #[.agg #[.int .u64 hi, .int .u64 lo]] w (NumPost2 w true (-(u : Int))) := fun w => by
  rcases Nat.eq_zero_or_pos u with h0 | h0
  · obtain ⟨rfl, rfl⟩ : hi = 0 ∧ lo = 0 := by unfold Siz at h; omega
    subst h0
    exact minus_zero w
  · exact minus_yes hi lo u h h0 hu w

theorem run_lo (h l : Int) (w : World) : (Instr.field 68 (.agg #[.int .u64 h, .int .u64 l]) 1).run Try.prog w = .ok (.int .u64 l) w := by kernel_rfl

theorem mul_abs_same {a b : Int} (h : (decide (a < 0) == decide (b < 0)) = true) : ((a.natAbs * b.natAbs : Nat) : Int) = a * b := by
  rw [← Int.natAbs_mul, Int.natAbs_of_nonneg]
  simp at h
  by_cases ha : a < 0
  · exact Int.le_of_lt (Int.mul_pos_of_neg_of_neg ha (h.1 ha)) |> fun x => x
  · exact Int.mul_nonneg (by omega) (by have : ¬ b < 0 := fun hb => ha (h.2 hb); omega)
theorem mul_abs_diff {a b : Int} (h : (decide (a < 0) == decide (b < 0)) = false) : -((a.natAbs * b.natAbs : Nat) : Int) = a * b := by
  rw [← Int.natAbs_mul]
  have hle : a * b ≤ 0 := by
    simp at h
    by_cases ha : a < 0
    · have hb : 0 ≤ b := by
        by_cases hb : b < 0
        · simp [ha, hb] at h
        · omega
      exact Int.mul_nonpos_of_nonpos_of_nonneg (by omega) hb
    · have hb : b < 0 := by
        by_cases hb : b < 0
        · exact hb
        · simp [ha, hb] at h
      exact Int.mul_nonpos_of_nonneg_of_nonpos (by omega) (by omega)
  omega
theorem abs_lo {hi lo u : Nat} (h : Siz hi lo u) (hu : u < 18446744073709551616) : lo = u := by unfold Siz at h; omega

set_option maxHeartbeats 400000 in
theorem WNeg_yes (hi : Int) (lo : Nat) (z : Int) (h : Num hi lo z) (hz : -170141183460469231731687303715884105728 < z) (w : World) :
    Calls Try.prog 11 #[.agg #[.int .i64 hi, .int .u64 lo]] w (NumPost2 w true (-z)) := by
  have hN : -170141183460469231731687303715884105728 ≤ 0 - z ∧ 0 - z < 170141183460469231731687303715884105728 := by unfold Num at h; omega
  have HS := hide (fun w => WSub_yes 0 hi 0 lo 0 z Num_zero h hN w)
  rw [show (0 : Int) - z = -z by omega] at HS
  have H := hide (below_alloc2 w)
  clear h hz hN
  go_enter Try.func11, Try.ntmps11
  go_wp2_with fail
  refine (HS.out _).mono ?_
  rintro e w1 ⟨h1, l1, rfl, hN, hb⟩
  obtain ⟨hc, hf⟩ := bcell hb
  have hz := hb.size
  simp at hz
  have HB := hide hb
  have HN := hide hN
  clear hb hN
  go_wp2_with fail
  refine bodyPost_ret (v := .tuple #[.agg #[.int .i64 h1, .int .u64 l1], .bool true]) (by simp [results, Try.results11, go_sem, hc]) rfl ⟨_, _, rfl, HN.out, ?_⟩
  exact below_set2 ((H.out _ _).trans (HB.out.mono (by simp; omega))) (by omega) _ _

set_option maxHeartbeats 400000 in
theorem WNeg_no (hi : Int) (lo : Nat) (z : Int) (h : Num hi lo z) (hz : z = -170141183460469231731687303715884105728) (w : World) :
    Calls Try.prog 11 #[.agg #[.int .i64 hi, .int .u64 lo]] w (NumPost2 w false 0) := by
  have hN : 0 - z < -170141183460469231731687303715884105728 ∨ 170141183460469231731687303715884105728 ≤ 0 - z := by omega
  have HS := hide (fun w => WSub_no 0 hi 0 lo 0 z Num_zero h hN w)
  have H := hide (below_alloc2 w)
  clear h hz hN
  go_enter Try.func11, Try.ntmps11
  go_wp2_with fail
  refine (HS.out _).mono ?_
  rintro e w1 ⟨h1, l1, rfl, hN, hb⟩
  obtain ⟨rfl, rfl⟩ : h1 = 0 ∧ l1 = 0 := by unfold Num at hN; omega
  obtain ⟨hc, hf⟩ := bcell hb
  have hz := hb.size
  simp at hz
  have HB := hide hb
  clear hb hN
  go_wp2_with fail
  refine bodyPost_ret (v := .tuple #[.agg #[.int .i64 0, .int .u64 0], .bool false]) (by simp [results, Try.results11, go_sem, hc]) rfl ⟨0, 0, rfl, Num_zero, ?_⟩
  exact below_set2 ((H.out _ _).trans (HB.out.mono (by simp; omega))) (by omega) _ _

set_option maxHeartbeats 1000000 in
set_option maxRecDepth 100000 in
theorem WMul_same (a b : Int) (ha : -9223372036854775808 ≤ a ∧ a ≤ 9223372036854775807) (hb : -9223372036854775808 ≤ b ∧ b ≤ 9223372036854775807) (hab : (decide (a < 0) == decide (b < 0)) = true) (w : World) :
    Calls Try.prog 20 #[.int .i64 a, .int .i64 b] w (NumPost w (a * b)) := by
  have HA := hide (fun w => WOf_any a w ha.1 ha.2)
  have HB := hide (fun w => WOf_any b w hb.1 hb.2)
  have hzz := mul_abs_same hab
  obtain ⟨x, hx⟩ : ∃ x, a.natAbs = x := ⟨_, rfl⟩
  obtain ⟨y, hy⟩ : ∃ y, b.natAbs = y := ⟨_, rfl⟩
  rw [hx, hy] at hzz
  have hA : x ≤ 9223372036854775808 := by omega
  have hB : y ≤ 9223372036854775808 := by omega
  have hP : x * y ≤ 9223372036854775808 * 9223372036854775808 := Nat.mul_le_mul hA hB
  have HP := hide (show x * y < 170141183460469231731687303715884105728 by omega)
  have HM := hide (fun w => Mul64_post x y (by omega) (by omega) w)
  have HZ := Lib.hid hzz
  have hA2 := hide (show x < 18446744073709551616 by omega)
  have hB2 := hide (show y < 18446744073709551616 by omega)
  clear hzz
  have H := hide (below_alloc w)
  obtain ⟨ba, hba⟩ : ∃ ba, decide (a < 0) = ba := ⟨_, rfl⟩
  obtain ⟨bb, hbb⟩ : ∃ bb, decide (b < 0) = bb := ⟨_, rfl⟩
  rw [hba, hbb] at hab
  have HX := Lib.hid hx
  have HY := Lib.hid hy
  clear ha hb hA hB hP hx hy
  have hlo := run_lo
  go_enter Try.func20, Try.ntmps20
  go_wp2_with fail
  refine (HA.out _).mono ?_
  rintro e w1 ⟨h1, l1, rfl, hN1, hb1⟩
  have Hb1 := hide ((H.out _).trans (hb1.mono (by simp)))
  obtain ⟨hc, hf⟩ := bcell hb1
  have hz1 := hb1.size
  simp at hz1
  clear hb1
  go_wp2_with fail
  refine (sizeOf_any h1 l1 a hN1 _).mono ?_
  rw [HX.out]
  rintro e w2 ⟨h2, l2, rfl, hS2, hb2⟩
  obtain rfl := abs_lo hS2 hA2.out
  have Hb2 := hide (Hb1.out.trans (hb2.mono Hb1.out.size))
  have hz2 := hb2.size
  obtain ⟨hc2, hf2⟩ := bcell hb2
  clear hb2 hS2 hN1
  go_wp2_with fail
  refine (HB.out _).mono ?_
  rintro e w3 ⟨h3, l3, rfl, hN3, hb3⟩
  have Hb3 := hide (Hb2.out.trans (hb3.mono Hb2.out.size))
  have hz3 := hb3.size
  obtain ⟨hc3, hf3⟩ := bcell hb3
  clear hb3
  go_wp2_with fail
  refine (sizeOf_any h3 l3 b hN3 _).mono ?_
  rw [HY.out]
  rintro e w4 ⟨h4, l4, rfl, hS4, hb4⟩
  obtain rfl := abs_lo hS4 hB2.out
  have Hb4 := hide (Hb3.out.trans (hb4.mono Hb3.out.size))
  have hz4 := hb4.size
  obtain ⟨hc4, hf4⟩ := bcell hb4
  clear hb4 hS4 hN3
  go_wp2_with fail
  refine (HM.out _).mono ?_
  rintro e w' ⟨ph, pl, rfl, hS, rfl⟩
  have HSg := hide (fun w => signed_pos (ph : Int) (pl : Int) true _ (plus_post ph pl _ hS HP.out) w)
  rw [HZ.out] at HSg
  clear hS
  go_wp2_with fail
  refine (HSg.out _).mono ?_
  rintro e w5 ⟨h5, l5, rfl, hN5, hb5⟩
  have Hb5 := hide (Hb4.out.trans (hb5.mono Hb4.out.size))
  have hz5 := hb5.size
  have HN5 := hide hN5
  obtain ⟨hc5, hf5⟩ := bcell hb5
  have z1 : w.heap.size < w1.heap.size := by omega
  have z2 : w.heap.size < w2.heap.size := by omega
  have z3 : w.heap.size < w3.heap.size := by omega
  have z4 : w.heap.size < w4.heap.size := by omega
  have z5 : w.heap.size < w5.heap.size := by omega
  have y0 : w5.cell? ⟨w.heap.size, 0, none⟩ = some (.int .i64 0) := by rw [hc5 _ _ z4, hc4 _ _ z3, hc3 _ _ z2, hc2 _ _ z1, hc _ _ (by simp)]; simp [go_sem]
  have y1 : w5.cell? ⟨w.heap.size, 1, none⟩ = some (.int .u64 0) := by rw [hc5 _ _ z4, hc4 _ _ z3, hc3 _ _ z2, hc2 _ _ z1, hc _ _ (by simp)]; simp [go_sem]
  have y2 : w5.frozen? ⟨w.heap.size, 0, none⟩ = false := by rw [hf5 _ _ z4, hf4 _ _ z3, hf3 _ _ z2, hf2 _ _ z1, hf _ _ (by simp)]; simp [go_sem]
  have y3 : w5.frozen? ⟨w.heap.size, 1, none⟩ = false := by rw [hf5 _ _ z4, hf4 _ _ z3, hf3 _ _ z2, hf2 _ _ z1, hf _ _ (by simp)]; simp [go_sem]
  clear hc hf hc2 hf2 hc3 hf3 hc4 hf4 hc5 hf5 hb5 hN5
  have x0 : ∀ o, (w5.alloc o).cell? ⟨w.heap.size, 0, none⟩ = some (.int .i64 0) := fun o => by rw [World.cell?_alloc_lt w5 o _ z5]; exact y0
  have x1 : ∀ o, (w5.alloc o).cell? ⟨w.heap.size, 1, none⟩ = some (.int .u64 0) := fun o => by rw [World.cell?_alloc_lt w5 o _ z5]; exact y1
  have x2 : ∀ o, (w5.alloc o).frozen? ⟨w.heap.size, 0, none⟩ = false := fun o => ((below_alloc w5 o).frozen (p := ⟨w.heap.size, 0, none⟩) z5).trans y2
  have x3 : ∀ o, (w5.alloc o).frozen? ⟨w.heap.size, 1, none⟩ = false := fun o => ((below_alloc w5 o).frozen (p := ⟨w.heap.size, 1, none⟩) z5).trans y3
  go_wp2_with fail
  refine bodyPost_ret (v := .agg #[.int .i64 h5, .int .u64 l5]) (by simp [results, Try.results20, go_sem, y0, y1, z5]) rfl ⟨_, _, rfl, HN5.out, ?_⟩
  exact (below_set2 Hb5.out (Nat.le_refl _) _ _).alloc (by simp [World.setCell]; omega) _

set_option maxHeartbeats 1000000 in
set_option maxRecDepth 100000 in
theorem WMul_diff (a b : Int) (ha : -9223372036854775808 ≤ a ∧ a ≤ 9223372036854775807) (hb : -9223372036854775808 ≤ b ∧ b ≤ 9223372036854775807) (hab : (decide (a < 0) == decide (b < 0)) = false) (w : World) :
    Calls Try.prog 20 #[.int .i64 a, .int .i64 b] w (NumPost w (a * b)) := by
  have HA := hide (fun w => WOf_any a w ha.1 ha.2)
  have HB := hide (fun w => WOf_any b w hb.1 hb.2)
  have hzz := mul_abs_diff hab
  obtain ⟨x, hx⟩ : ∃ x, a.natAbs = x := ⟨_, rfl⟩
  obtain ⟨y, hy⟩ : ∃ y, b.natAbs = y := ⟨_, rfl⟩
  rw [hx, hy] at hzz
  have hA : x ≤ 9223372036854775808 := by omega
  have hB : y ≤ 9223372036854775808 := by omega
  have hP : x * y ≤ 9223372036854775808 * 9223372036854775808 := Nat.mul_le_mul hA hB
  have HP := hide (show x * y < 170141183460469231731687303715884105728 by omega)
  have HM := hide (fun w => Mul64_post x y (by omega) (by omega) w)
  have HZ := Lib.hid hzz
  have hA2 := hide (show x < 18446744073709551616 by omega)
  have hB2 := hide (show y < 18446744073709551616 by omega)
  clear hzz
  have H := hide (below_alloc w)
  obtain ⟨ba, hba⟩ : ∃ ba, decide (a < 0) = ba := ⟨_, rfl⟩
  obtain ⟨bb, hbb⟩ : ∃ bb, decide (b < 0) = bb := ⟨_, rfl⟩
  rw [hba, hbb] at hab
  have HX := Lib.hid hx
  have HY := Lib.hid hy
  clear ha hb hA hB hP hx hy
  have hlo := run_lo
  go_enter Try.func20, Try.ntmps20
  go_wp2_with fail
  refine (HA.out _).mono ?_
  rintro e w1 ⟨h1, l1, rfl, hN1, hb1⟩
  have Hb1 := hide ((H.out _).trans (hb1.mono (by simp)))
  obtain ⟨hc, hf⟩ := bcell hb1
  have hz1 := hb1.size
  simp at hz1
  clear hb1
  go_wp2_with fail
  refine (sizeOf_any h1 l1 a hN1 _).mono ?_
  rw [HX.out]
  rintro e w2 ⟨h2, l2, rfl, hS2, hb2⟩
  obtain rfl := abs_lo hS2 hA2.out
  have Hb2 := hide (Hb1.out.trans (hb2.mono Hb1.out.size))
  have hz2 := hb2.size
  obtain ⟨hc2, hf2⟩ := bcell hb2
  clear hb2 hS2 hN1
  go_wp2_with fail
  refine (HB.out _).mono ?_
  rintro e w3 ⟨h3, l3, rfl, hN3, hb3⟩
  have Hb3 := hide (Hb2.out.trans (hb3.mono Hb2.out.size))
  have hz3 := hb3.size
  obtain ⟨hc3, hf3⟩ := bcell hb3
  clear hb3
  go_wp2_with fail
  refine (sizeOf_any h3 l3 b hN3 _).mono ?_
  rw [HY.out]
  rintro e w4 ⟨h4, l4, rfl, hS4, hb4⟩
  obtain rfl := abs_lo hS4 hB2.out
  have Hb4 := hide (Hb3.out.trans (hb4.mono Hb3.out.size))
  have hz4 := hb4.size
  obtain ⟨hc4, hf4⟩ := bcell hb4
  clear hb4 hS4 hN3
  go_wp2_with fail
  refine (HM.out _).mono ?_
  rintro e w' ⟨ph, pl, rfl, hS, rfl⟩
  have HSg := hide (fun w => signed_neg (ph : Int) (pl : Int) true _ (minus_post ph pl _ hS (Nat.le_of_lt HP.out)) w)
  rw [HZ.out] at HSg
  clear hS
  go_wp2_with fail
  refine (HSg.out _).mono ?_
  rintro e w5 ⟨h5, l5, rfl, hN5, hb5⟩
  have Hb5 := hide (Hb4.out.trans (hb5.mono Hb4.out.size))
  have hz5 := hb5.size
  have HN5 := hide hN5
  obtain ⟨hc5, hf5⟩ := bcell hb5
  have z1 : w.heap.size < w1.heap.size := by omega
  have z2 : w.heap.size < w2.heap.size := by omega
  have z3 : w.heap.size < w3.heap.size := by omega
  have z4 : w.heap.size < w4.heap.size := by omega
  have z5 : w.heap.size < w5.heap.size := by omega
  have y0 : w5.cell? ⟨w.heap.size, 0, none⟩ = some (.int .i64 0) := by rw [hc5 _ _ z4, hc4 _ _ z3, hc3 _ _ z2, hc2 _ _ z1, hc _ _ (by simp)]; simp [go_sem]
  have y1 : w5.cell? ⟨w.heap.size, 1, none⟩ = some (.int .u64 0) := by rw [hc5 _ _ z4, hc4 _ _ z3, hc3 _ _ z2, hc2 _ _ z1, hc _ _ (by simp)]; simp [go_sem]
  have y2 : w5.frozen? ⟨w.heap.size, 0, none⟩ = false := by rw [hf5 _ _ z4, hf4 _ _ z3, hf3 _ _ z2, hf2 _ _ z1, hf _ _ (by simp)]; simp [go_sem]
  have y3 : w5.frozen? ⟨w.heap.size, 1, none⟩ = false := by rw [hf5 _ _ z4, hf4 _ _ z3, hf3 _ _ z2, hf2 _ _ z1, hf _ _ (by simp)]; simp [go_sem]
  clear hc hf hc2 hf2 hc3 hf3 hc4 hf4 hc5 hf5 hb5 hN5
  have x0 : ∀ o, (w5.alloc o).cell? ⟨w.heap.size, 0, none⟩ = some (.int .i64 0) := fun o => by rw [World.cell?_alloc_lt w5 o _ z5]; exact y0
  have x1 : ∀ o, (w5.alloc o).cell? ⟨w.heap.size, 1, none⟩ = some (.int .u64 0) := fun o => by rw [World.cell?_alloc_lt w5 o _ z5]; exact y1
  have x2 : ∀ o, (w5.alloc o).frozen? ⟨w.heap.size, 0, none⟩ = false := fun o => ((below_alloc w5 o).frozen (p := ⟨w.heap.size, 0, none⟩) z5).trans y2
  have x3 : ∀ o, (w5.alloc o).frozen? ⟨w.heap.size, 1, none⟩ = false := fun o => ((below_alloc w5 o).frozen (p := ⟨w.heap.size, 1, none⟩) z5).trans y3
  go_wp2_with fail
  refine bodyPost_ret (v := .agg #[.int .i64 h5, .int .u64 l5]) (by simp [results, Try.results20, go_sem, y0, y1, z5]) rfl ⟨_, _, rfl, HN5.out, ?_⟩
  exact (below_set2 Hb5.out (Nat.le_refl _) _ _).alloc (by simp [World.setCell]; omega) _

theorem WMul_any (a b : Int) (ha : -9223372036854775808 ≤ a ∧ a ≤ 9223372036854775807) (hb : -9223372036854775808 ≤ b ∧ b ≤ 9223372036854775807) (w : World) :
    Calls Try.prog 20 #[.int .i64 a, .int .i64 b] w (NumPost w (a * b)) := by
  cases h : (decide (a < 0) == decide (b < 0))
  · exact WMul_diff a b ha hb h w
  · exact WMul_same a b ha hb h w

end Go.Proofs.Ytoaaecggfaaplaa
