/-
Contracts of package rect and of its reference: how many places one has. No statement is proved here.
-/
import Derived.Test.YtghnaocejbiidaaRect2
import Derived.IntWalk
namespace Go.Proofs.Ytghnaocejbiidaa
open Go.RowKit

theorem area_gt {r : Rc} (h : empB r = false) : decide (9223372036854775807 / (r.d - r.b) < r.c - r.a) = decide (9223372036854775807 < (r.c - r.a) * (r.d - r.b)) := by
  have k := emp_not h
  rw [decide_eq_decide]
  have := Int.le_ediv_iff_mul_le (a := r.c - r.a) (b := 9223372036854775807) (c := r.d - r.b) (by omega)
  omega
theorem area_big {r : Rc} (h : empB r = false) (hb : 9223372036854775807 < (r.c - r.a) * (r.d - r.b)) : areaZ r = 9223372036854775807 := by
  simp only [areaZ, h, Bool.false_eq_true, if_false]; omega
theorem area_small {r : Rc} (h : empB r = false) (hb : ¬ 9223372036854775807 < (r.c - r.a) * (r.d - r.b)) : areaZ r = (r.c - r.a) * (r.d - r.b) ∧ 0 ≤ (r.c - r.a) * (r.d - r.b) := by
  have k := emp_not h
  refine ⟨?_, Int.mul_nonneg (by omega) (by omega)⟩
  simp only [areaZ, h, Bool.false_eq_true, if_false]; omega

set_option maxHeartbeats 400000 in
theorem Area_any (r : Rc) (w : World) : Calls Try.prog 20 #[.agg #[.int .i64 r.a, .int .i64 r.b, .int .i64 r.c, .int .i64 r.d]] w (Says w (.int .i64 (areaZ r))) := by
  have H := hide (below_alloc w)
  have HE := hide (fun w => Empty_any r w)
  cases h : empB r
  · have k := emp_not h
    rw [h] at HE
    have hg := area_gt h
    by_cases hb : 9223372036854775807 < (r.c - r.a) * (r.d - r.b)
    · have hg1 : decide (9223372036854775807 / (r.d - r.b) < r.c - r.a) = true := by rw [hg]; simpa using hb
      rw [area_big h hb]
      clear hg h hb
      go_enter Try.func20, Try.ntmps20
      go_wp2_with fail
      refine (HE.out _).mono ?_
      rintro e w1 ⟨rfl, hb⟩
      obtain ⟨hc, hf⟩ := bcell hb
      have HB := hide hb
      clear hb
      go_wp2_with fail
      go_quiet (fail)
      go_wp2_with fail
      go_ret
      exact ⟨rfl, bdrewN ((H.out _).trans (HB.out.mono (by simp))) _⟩
    · have hg1 : decide (9223372036854775807 / (r.d - r.b) < r.c - r.a) = false := by rw [hg]; simpa using hb
      obtain ⟨hs, hp⟩ := area_small h hb
      have hw : IntKind.i64.wrap ((r.c - r.a) * (r.d - r.b)) = (r.c - r.a) * (r.d - r.b) := IntWalk.i64_in _ (by omega)
      rw [hs]
      clear hg h hb hs
      go_enter Try.func20, Try.ntmps20
      go_wp2_with fail
      refine (HE.out _).mono ?_
      rintro e w1 ⟨rfl, hb⟩
      obtain ⟨hc, hf⟩ := bcell hb
      have HB := hide hb
      clear hb
      go_wp2_with fail
      go_quiet (fail)
      go_wp2_with fail
      go_ret
      exact ⟨rfl, bdrewN ((H.out _).trans (HB.out.mono (by simp))) _⟩
  · rw [h] at HE
    rw [show areaZ r = 0 by simp [areaZ, h]]
    go_enter Try.func20, Try.ntmps20
    go_wp2_with fail
    refine (HE.out _).mono ?_
    rintro e w1 ⟨rfl, hb⟩
    obtain ⟨hc, hf⟩ := bcell hb
    have HB := hide hb
    clear hb
    go_wp2_with fail
    go_ret
    exact ⟨rfl, (H.out _).trans (HB.out.mono (by simp))⟩

set_option maxHeartbeats 400000 in
theorem RArea_any (r : Rc) (w : World) : Calls Try.prog 16 #[.agg #[.int .i64 r.a, .int .i64 r.b, .int .i64 r.c, .int .i64 r.d]] w (Says w (.int .i64 (areaZ r))) := by
  have H := hide (below_alloc w)
  have HE := hide (fun w => RNorm_any r w)
  cases h : empB r
  · have k := emp_not h
    rw [nm_not h] at HE
    have hg := area_gt h
    by_cases hb : 9223372036854775807 < (r.c - r.a) * (r.d - r.b)
    · have hg1 : decide (9223372036854775807 / (r.d - r.b) < r.c - r.a) = true := by rw [hg]; simpa using hb
      rw [area_big h hb]
      clear hg h hb
      go_enter Try.func16, Try.ntmps16
      go_wp2_with fail
      refine (HE.out _).mono ?_
      rintro e w1 ⟨rfl, hb⟩
      obtain ⟨hc, hf⟩ := bcell hb
      have hz := hb.size
      simp at hz
      have HB := hide hb
      clear hb
      go_wp2_with fail
      go_ret
      exact ⟨rfl, ((H.out _).trans (HB.out.mono (by simp))).alloc (by omega) _⟩
    · have hg1 : decide (9223372036854775807 / (r.d - r.b) < r.c - r.a) = false := by rw [hg]; simpa using hb
      obtain ⟨hs, hp⟩ := area_small h hb
      have hw : IntKind.i64.wrap ((r.c - r.a) * (r.d - r.b)) = (r.c - r.a) * (r.d - r.b) := IntWalk.i64_in _ (by omega)
      rw [hs]
      clear hg h hb hs
      go_enter Try.func16, Try.ntmps16
      go_wp2_with fail
      refine (HE.out _).mono ?_
      rintro e w1 ⟨rfl, hb⟩
      obtain ⟨hc, hf⟩ := bcell hb
      have hz := hb.size
      simp at hz
      have HB := hide hb
      clear hb
      go_wp2_with fail
      go_ret
      exact ⟨rfl, ((H.out _).trans (HB.out.mono (by simp))).alloc (by omega) _⟩
  · rw [nm_emp h] at HE
    rw [show areaZ r = 0 by simp [areaZ, h]]
    go_enter Try.func16, Try.ntmps16
    go_wp2_with fail
    refine (HE.out _).mono ?_
    rintro e w1 ⟨rfl, hb⟩
    obtain ⟨hc, hf⟩ := bcell hb
    have hz := hb.size
    simp at hz
    have HB := hide hb
    clear hb
    go_wp2_with fail
    go_ret
    exact ⟨rfl, ((H.out _).trans (HB.out.mono (by simp))).alloc (by omega) _⟩

end Go.Proofs.Ytghnaocejbiidaa
