/-
Contract of package wide: Scale. No statement is proved here.
-/
import Derived.Test.YtoaaecggfaaplaaTold
namespace Go.Proofs.Ytoaaecggfaaplaa
open Go.RowKit

theorem Bel.alloc {w w' : World} (h : Bel w w') (o : Obj) : Bel w (w'.alloc o) := Below.alloc h h.size o
theorem Bel.setCell {w w' : World} (h : Bel w w') {g i : Nat} (hg : w.heap.size ≤ g) (u : Value) : Bel w (w'.setCell ⟨g, i, none⟩ u) := Below.setCell h hg u

/-- two boxes of two cells each -/
def Twos (w : World) (t1 t2 : TypeId) (x0 x1 y0 y1 : Value) : World := (w.alloc (.cells #[x0, x1] t1)).alloc (.cells #[y0, y1] t2)
section
variable (w : World) (t1 t2 : TypeId) (x0 x1 y0 y1 : Value)
theorem Twos.below : Below w.heap.size w (Twos w t1 t2 x0 x1 y0 y1) := below_alloc2 w _ _
theorem Twos.size : (Twos w t1 t2 x0 x1 y0 y1).heap.size = w.heap.size + 2 := by simp [Twos]
theorem Twos.start : Bel (Twos w t1 t2 x0 x1 y0 y1) ((w.alloc (.cells #[x0, x1] t1)).alloc (.cells #[y0, y1] t2)) := Bel.refl _
theorem Twos.args (w' : World) (h : Bel (Twos w t1 t2 x0 x1 y0 y1) w') :
    w'.cell? ⟨w.heap.size, 0, none⟩ = some x0 ∧ w'.cell? ⟨w.heap.size, 1, none⟩ = some x1 ∧ w'.cell? ⟨w.heap.size + 1, 0, none⟩ = some y0 ∧ w'.cell? ⟨w.heap.size + 1, 1, none⟩ = some y1 ∧ w'.frozen? ⟨w.heap.size + 1, 0, none⟩ = false ∧ w'.frozen? ⟨w.heap.size + 1, 1, none⟩ = false ∧ w.heap.size + 1 < w'.heap.size := by
  have hz := Twos.size w t1 t2 x0 x1 y0 y1
  refine ⟨?_, ?_, ?_, ?_, ?_, ?_, by have := Below.size h; omega⟩
  · rw [h.cell 0 (by omega)]; simp [Twos, go_sem]
  · rw [h.cell 1 (by omega)]; simp [Twos, go_sem]
  · rw [h.cell 0 (by omega)]; simp [Twos, go_sem]
  · rw [h.cell 1 (by omega)]; simp [Twos, go_sem]
  · rw [h.frozen 0 (by omega)]; simp [Twos, go_sem]
  · rw [h.frozen 1 (by omega)]; simp [Twos, go_sem]
end

theorem signed_pos_tol (hi lo u : Nat) (h : Siz hi lo u) (w : World) : Calls Try.prog 44 #[.agg #[.int .u64 hi, .int .u64 lo], .bool false] w (TolPost w u) := by
  by_cases hu : u < 170141183460469231731687303715884105728
  · exact (signed_pos hi lo true u (plus_post hi lo u h hu) w).mono fun _ _ h => TolPost.yes h
  · exact (signed_pos hi lo false 0 (fun w => plus_no hi lo u h (by omega) w) w).mono fun _ _ h => TolPost.no h (by omega)
theorem signed_neg_tol (hi lo u : Nat) (h : Siz hi lo u) (w : World) : Calls Try.prog 44 #[.agg #[.int .u64 hi, .int .u64 lo], .bool true] w (TolPost w (-(u : Int))) := by
  by_cases hu : u ≤ 170141183460469231731687303715884105728
  · exact (signed_neg hi lo true (-(u : Int)) (minus_post hi lo u h hu) w).mono fun _ _ h => TolPost.yes h
  · exact (signed_neg hi lo false 0 (fun w => minus_no hi lo u h (by omega) w) w).mono fun _ _ h => TolPost.no h (by omega)

theorem scale_num {sh sl f ch cl oh ol hh m P1 P2 : Nat} (h1 : P1 = sl * f) (h2 : P2 = sh * f) (e1 : Siz ch cl P1) (e2 : Siz oh ol P2) (e3 : AddIs ol ch 0 hh m) :
    (sh * 18446744073709551616 + sl) * f = (oh + m) * 340282366920938463463374607431768211456 + hh * 18446744073709551616 + cl ∧ hh < 18446744073709551616 ∧ cl < 18446744073709551616 := by
  rw [Nat.add_mul, Nat.mul_right_comm, ← h1, ← h2]
  unfold Siz AddIs at *
  omega

def TolPostOver (z : Int) : Prop := z < -170141183460469231731687303715884105728 ∨ 170141183460469231731687303715884105728 ≤ z
theorem scale_siz {P hh cl : Nat} (h : P = (0 + 0) * 340282366920938463463374607431768211456 + hh * 18446744073709551616 + cl ∧ hh < 18446744073709551616 ∧ cl < 18446744073709551616) : Siz hh cl P := ⟨h.2.1, h.2.2, by rw [h.1]; omega⟩
theorem scale_over {P oh m hh cl : Nat} {z : Int} (h : P = (oh + m) * 340282366920938463463374607431768211456 + hh * 18446744073709551616 + cl) (ho : 0 < oh ∨ 0 < m) (hz : z = (P : Int) ∨ z = -(P : Int)) : TolPostOver z := by
  have h2 : 340282366920938463463374607431768211456 ≤ P := by
    have : 1 ≤ oh + m := by omega
    have := Nat.mul_le_mul_right 340282366920938463463374607431768211456 this
    omega
  unfold TolPostOver
  rcases hz with rfl | rfl <;> omega

set_option maxHeartbeats 2000000 in
set_option maxRecDepth 100000 in
theorem WScale_same (hi : Int) (lo : Nat) (a b : Int) (ha : Num hi lo a) (hb : -9223372036854775808 ≤ b ∧ b ≤ 9223372036854775807) (hab : (decide (a < 0) == decide (b < 0)) = true) (w : World) :
    Calls Try.prog 19 #[.agg #[.int .i64 hi, .int .u64 lo], .int .i64 b] w (TolPost w (a * b)) := by
  have HO := hide (fun w => WOf_any b w hb.1 hb.2)
  have hzz := mul_abs_same hab
  obtain ⟨x, hx⟩ : ∃ x, a.natAbs = x := ⟨_, rfl⟩
  obtain ⟨y, hy⟩ : ∃ y, b.natAbs = y := ⟨_, rfl⟩
  rw [hx, hy] at hzz
  have hB2 := hide (show y < 18446744073709551616 by omega)
  have HSa := hide (fun w => sizeOf_any hi lo a ha w)
  rw [hx] at HSa
  have HZ := Lib.hid hzz
  have HY := Lib.hid hy
  have hlo := run_lo
  have hds : decide (hi < 0) = decide (a < 0) := by rw [decide_eq_decide]; unfold Num at ha; omega
  obtain ⟨ba, hba⟩ : ∃ ba, decide (a < 0) = ba := ⟨_, rfl⟩
  obtain ⟨bb, hbb⟩ : ∃ bb, decide (b < 0) = bb := ⟨_, rfl⟩
  rw [hba, hbb] at hab
  rw [hba] at hds
  have HBl := hide (below_is hi lo ba hds)
  have H4 := hide (Twos.args w 24 24 (.int .i64 hi) (.int .u64 lo) (.int .i64 0) (.int .u64 0))
  have HL := hide fun w' (hb' : Bel (Twos w 24 24 (.int .i64 hi) (.int .u64 lo) (.int .i64 0) (.int .u64 0)) w') => (Twos.below w 24 24 (.int .i64 hi) (.int .u64 lo) (.int .i64 0) (.int .u64 0)).trans (hb'.mono (by rw [Twos.size]; omega))
  have HMul := hide Mul64_post
  have HAdd := hide ex_add64_0
  clear ha hb hzz hx hy hds hba
  go_enter Try.func19, Try.ntmps19
  go_wp2_with fail
  refine (HSa.out _).mono ?_
  rintro e w1 ⟨sh, sl, rfl, hS1, hb1⟩
  have hk1 := hide (Bel.trans (Twos.start w 24 24 (.int .i64 hi) (.int .u64 lo) (.int .i64 0) (.int .u64 0)) hb1)
  have HS1 := hide hS1
  clear hb1 hS1
  go_wp2_with fail
  refine (HO.out _).mono ?_
  rintro e w2 ⟨h2, l2, rfl, hN2, hb2⟩
  have hk2 := hide (Bel.trans hk1.out hb2)
  clear hb2 hk1
  go_wp2_with fail
  refine (sizeOf_any h2 l2 b hN2 _).mono ?_
  rw [HY.out]
  rintro e w3 ⟨h3, l3, rfl, hS3, hb3⟩
  have hk3 := hide (Bel.trans hk2.out hb3)
  obtain rfl := abs_lo hS3 hB2.out
  clear hb3 hk2 hN2 hS3
  go_wp2_with fail
  refine (HMul.out sl l3 (by have := HS1.out; unfold Siz at this; omega) hB2.out _).mono ?_
  rintro e w' ⟨ch, cl, rfl, hM1, rfl⟩
  have HM1 := hide hM1
  clear hM1
  go_wp2_with fail
  refine (HMul.out sh l3 (by have := HS1.out; unfold Siz at this; omega) hB2.out _).mono ?_
  rintro e w' ⟨oh, ol, rfl, hM2, rfl⟩
  have HM2 := hide hM2
  obtain ⟨hh, m, hadd, HA⟩ := HAdd.out ol ch (by unfold Siz at hM2; omega) (by have := HM1.out; unfold Siz at this; omega)
  have hsc := scale_num rfl rfl HM1.out hM2 HA.out
  rw [show sh * 18446744073709551616 + sl = x by have := HS1.out; unfold Siz at this; omega] at hsc
  have hm1 := AddIs.le HA.out
  have hfs := H4.out (w3.alloc (.cells #[.int .u64 sh, .int .u64 sl] 68)) (Bel.alloc hk3.out _)
  obtain ⟨q1, q2, q3, q4, q5, q6, q7⟩ := hfs
  by_cases hov : 0 < oh ∨ 0 < m
  · have hz := hide (show TolPostOver (a * b) by
      unfold TolPostOver; rw [← HZ.out]; generalize x * l3 = P at *; omega)
    have hcase : 0 < oh ∨ (oh = 0 ∧ 0 < m) := by omega
    clear hsc hov hM2 hm1
    have HK := hide (HL.out _ (Bel.alloc hk3.out (.cells #[.int .u64 sh, .int .u64 sl] 68)))
    rcases hcase with ho | ⟨rfl, ho⟩
    all_goals
      go_wp2_with fail
      refine bodyPost_ret (v := .tuple #[.agg #[.int .i64 0, .int .u64 0], .bool false]) (by simp [results, Try.results19, go_sem, q3, q4]) rfl ⟨0, 0, false, rfl, .inr ⟨rfl, rfl, rfl, hz.out⟩, ?_⟩
      exact below_set2 HK.out (by omega) _ _
  · obtain ⟨rfl, rfl⟩ : oh = 0 ∧ m = 0 := by omega
    have HS := hide (scale_siz hsc)
    have HSg := hide (fun w => signed_pos_tol hh cl _ HS.out w)
    rw [HZ.out] at HSg
    clear hsc hov hM2 hm1
    go_wp2_with fail
    refine (HBl.out _).mono ?_
    rintro e w4 ⟨rfl, hb4⟩
    have hk4 := hide (Bel.trans (Bel.alloc hk3.out (.cells #[.int .u64 sh, .int .u64 sl] 68)) hb4)
    clear hb4
    go_wp2_with fail
    refine (HSg.out _).mono ?_
    rintro e w5 ⟨h5, l5, b5, rfl, hT, hb5⟩
    have hk5 := Bel.trans hk4.out hb5
    have HK := hide (HL.out _ hk5)
    obtain ⟨p1, p2, p3, p4, p5, p6, p7⟩ := H4.out _ hk5
    have HT := hide hT
    clear hb5 hk5 hT
    go_wp2_with fail
    refine bodyPost_ret (v := .tuple #[.agg #[.int .i64 h5, .int .u64 l5], .bool b5]) (by simp [results, Try.results19, go_sem, p3, p4]) rfl ⟨_, _, _, rfl, HT.out, ?_⟩
    exact below_set2 HK.out (by omega) _ _

set_option maxHeartbeats 2000000 in
set_option maxRecDepth 100000 in
theorem WScale_diff (hi : Int) (lo : Nat) (a b : Int) (ha : Num hi lo a) (hb : -9223372036854775808 ≤ b ∧ b ≤ 9223372036854775807) (hab : (decide (a < 0) == decide (b < 0)) = false) (w : World) :
    Calls Try.prog 19 #[.agg #[.int .i64 hi, .int .u64 lo], .int .i64 b] w (TolPost w (a * b)) := by
  have HO := hide (fun w => WOf_any b w hb.1 hb.2)
  have hzz := mul_abs_diff hab
  obtain ⟨x, hx⟩ : ∃ x, a.natAbs = x := ⟨_, rfl⟩
  obtain ⟨y, hy⟩ : ∃ y, b.natAbs = y := ⟨_, rfl⟩
  rw [hx, hy] at hzz
  have hB2 := hide (show y < 18446744073709551616 by omega)
  have HSa := hide (fun w => sizeOf_any hi lo a ha w)
  rw [hx] at HSa
  have HZ := Lib.hid hzz
  have HY := Lib.hid hy
  have hlo := run_lo
  have hds : decide (hi < 0) = decide (a < 0) := by rw [decide_eq_decide]; unfold Num at ha; omega
  obtain ⟨ba, hba⟩ : ∃ ba, decide (a < 0) = ba := ⟨_, rfl⟩
  obtain ⟨bb, hbb⟩ : ∃ bb, decide (b < 0) = bb := ⟨_, rfl⟩
  rw [hba, hbb] at hab
  rw [hba] at hds
  have HBl := hide (below_is hi lo ba hds)
  have H4 := hide (Twos.args w 24 24 (.int .i64 hi) (.int .u64 lo) (.int .i64 0) (.int .u64 0))
  have HL := hide fun w' (hb' : Bel (Twos w 24 24 (.int .i64 hi) (.int .u64 lo) (.int .i64 0) (.int .u64 0)) w') => (Twos.below w 24 24 (.int .i64 hi) (.int .u64 lo) (.int .i64 0) (.int .u64 0)).trans (hb'.mono (by rw [Twos.size]; omega))
  have HMul := hide Mul64_post
  have HAdd := hide ex_add64_0
  clear ha hb hzz hx hy hds hba
  go_enter Try.func19, Try.ntmps19
  go_wp2_with fail
  refine (HSa.out _).mono ?_
  rintro e w1 ⟨sh, sl, rfl, hS1, hb1⟩
  have hk1 := hide (Bel.trans (Twos.start w 24 24 (.int .i64 hi) (.int .u64 lo) (.int .i64 0) (.int .u64 0)) hb1)
  have HS1 := hide hS1
  clear hb1 hS1
  go_wp2_with fail
  refine (HO.out _).mono ?_
  rintro e w2 ⟨h2, l2, rfl, hN2, hb2⟩
  have hk2 := hide (Bel.trans hk1.out hb2)
  clear hb2 hk1
  go_wp2_with fail
  refine (sizeOf_any h2 l2 b hN2 _).mono ?_
  rw [HY.out]
  rintro e w3 ⟨h3, l3, rfl, hS3, hb3⟩
  have hk3 := hide (Bel.trans hk2.out hb3)
  obtain rfl := abs_lo hS3 hB2.out
  clear hb3 hk2 hN2 hS3
  go_wp2_with fail
  refine (HMul.out sl l3 (by have := HS1.out; unfold Siz at this; omega) hB2.out _).mono ?_
  rintro e w' ⟨ch, cl, rfl, hM1, rfl⟩
  have HM1 := hide hM1
  clear hM1
  go_wp2_with fail
  refine (HMul.out sh l3 (by have := HS1.out; unfold Siz at this; omega) hB2.out _).mono ?_
  rintro e w' ⟨oh, ol, rfl, hM2, rfl⟩
  have HM2 := hide hM2
  obtain ⟨hh, m, hadd, HA⟩ := HAdd.out ol ch (by unfold Siz at hM2; omega) (by have := HM1.out; unfold Siz at this; omega)
  have hsc := scale_num rfl rfl HM1.out hM2 HA.out
  rw [show sh * 18446744073709551616 + sl = x by have := HS1.out; unfold Siz at this; omega] at hsc
  have hm1 := AddIs.le HA.out
  have hfs := H4.out (w3.alloc (.cells #[.int .u64 sh, .int .u64 sl] 68)) (Bel.alloc hk3.out _)
  obtain ⟨q1, q2, q3, q4, q5, q6, q7⟩ := hfs
  by_cases hov : 0 < oh ∨ 0 < m
  · have hz := hide (show TolPostOver (a * b) by
      unfold TolPostOver; rw [← HZ.out]; generalize x * l3 = P at *; omega)
    have hcase : 0 < oh ∨ (oh = 0 ∧ 0 < m) := by omega
    clear hsc hov hM2 hm1
    have HK := hide (HL.out _ (Bel.alloc hk3.out (.cells #[.int .u64 sh, .int .u64 sl] 68)))
    rcases hcase with ho | ⟨rfl, ho⟩
    all_goals
      go_wp2_with fail
      refine bodyPost_ret (v := .tuple #[.agg #[.int .i64 0, .int .u64 0], .bool false]) (by simp [results, Try.results19, go_sem, q3, q4]) rfl ⟨0, 0, false, rfl, .inr ⟨rfl, rfl, rfl, hz.out⟩, ?_⟩
      exact below_set2 HK.out (by omega) _ _
  · obtain ⟨rfl, rfl⟩ : oh = 0 ∧ m = 0 := by omega
    have HS := hide (scale_siz hsc)
    have HSg := hide (fun w => signed_neg_tol hh cl _ HS.out w)
    rw [HZ.out] at HSg
    clear hsc hov hM2 hm1
    go_wp2_with fail
    refine (HBl.out _).mono ?_
    rintro e w4 ⟨rfl, hb4⟩
    have hk4 := hide (Bel.trans (Bel.alloc hk3.out (.cells #[.int .u64 sh, .int .u64 sl] 68)) hb4)
    clear hb4
    go_wp2_with fail
    refine (HSg.out _).mono ?_
    rintro e w5 ⟨h5, l5, b5, rfl, hT, hb5⟩
    have hk5 := Bel.trans hk4.out hb5
    have HK := hide (HL.out _ hk5)
    obtain ⟨p1, p2, p3, p4, p5, p6, p7⟩ := H4.out _ hk5
    have HT := hide hT
    clear hb5 hk5 hT
    go_wp2_with fail
    refine bodyPost_ret (v := .tuple #[.agg #[.int .i64 h5, .int .u64 l5], .bool b5]) (by simp [results, Try.results19, go_sem, p3, p4]) rfl ⟨_, _, _, rfl, HT.out, ?_⟩
    exact below_set2 HK.out (by omega) _ _

theorem WScale_tol (hi : Int) (lo : Nat) (a b : Int) (ha : Num hi lo a) (hb : -9223372036854775808 ≤ b ∧ b ≤ 9223372036854775807) (w : World) :
    Calls Try.prog 19 #[.agg #[.int .i64 hi, .int .u64 lo], .int .i64 b] w (TolPost w (a * b)) := by
  cases h : (decide (a < 0) == decide (b < 0))
  · exact WScale_diff hi lo a b ha hb h w
  · exact WScale_same hi lo a b ha hb h w

end Go.Proofs.Ytoaaecggfaaplaa
