/-
Contract of a rectangle with more on each side. No statement is proved here.
-/
import Derived.Test.YtghnaocejbiidaaRect7
import Derived.StillTailTactics
namespace Go.Proofs.Ytghnaocejbiidaa
open Go.RowKit

set_option maxHeartbeats 1000000 in
theorem Grow_any_some (r : Rc) (k : Int) (w : World) (h : empB r = false) : Calls Try.prog 21 #[.agg #[.int .i64 r.a, .int .i64 r.b, .int .i64 r.c, .int .i64 r.d], .int .i64 k] w (Says w (.agg #[.int .i64 (growR r k).a, .int .i64 (growR r k).b, .int .i64 (growR r k).c, .int .i64 (growR r k).d])) := by
  have KS := hide (Pair2.start w r ⟨0, 0, 0, 0⟩)
  have HK := hide (near_any k)
  have HE := hide (fun w => Empty_any r w)
  have eb := emp_not h
  cases hk : nearB k
  · rw [grow_far h hk]
    have HQ := hide (fun w => Norm_any ⟨cutZ r.a, cutZ r.b, cutZ r.c, cutZ r.d⟩ w)
    obtain ⟨u, hu⟩ : ∃ u, nm ⟨cutZ r.a, cutZ r.b, cutZ r.c, cutZ r.d⟩ = u := ⟨_, rfl⟩
    rw [hu] at HQ ⊢
    have e1 : IntKind.i64.wrap r.a = r.a := IntWalk.i64_in _ (by omega)
    have e2 : IntKind.i64.wrap r.b = r.b := IntWalk.i64_in _ (by omega)
    have e3 : IntKind.i64.wrap r.c = r.c := IntWalk.i64_in _ (by omega)
    have e4 : IntKind.i64.wrap r.d = r.d := IntWalk.i64_in _ (by omega)
    rw [h] at HE
    rw [hk] at HK
    clear h hk hu eb
    go_enter Try.func21, Try.ntmps21
    go_wp2_with fail
    refine (HK.out _).mono ?_
    rintro e w' ⟨rfl, rfl⟩
    go_wp2_with fail
    refine (HE.out _).mono ?_
    rintro e w1 ⟨rfl, hb⟩
    have K1 := KS.out.below hb
    clear hb
    obtain ⟨ba0, ca0, ca1, ca2, ca3, fa0, fa1, fa2, fa3⟩ := K1.1.four
    go_wp2_with fail
    refine wp_region_still_tail 21 (by kernel_rfl) (by kernel_rfl) ?_
    simp only [List.take_succ_cons, List.take_zero, List.drop_succ_cons, List.drop_zero]
    repeat (first
      | (refine wpStill_step (fun K hK => ?_); go_simp; refine hK _ ?_; clear hK K)
      | (refine wpStill_step (fun K hK => ?_); go_simp; refine ⟨_, (cut_any _ _).mono fun _ _ h => ⟨h.1, h.2.symm⟩, hK _ ?_⟩; clear hK K))
    refine wpStill_nil ?_
    change wpList _ _ _ _ _ w1.drew
    have KD := K1.drew
    clear K1 ba0 ca0 ca1 ca2 ca3 fa0 fa1 fa2 fa3
    generalize w1.drew = wD at KD ⊢
    go_wp2_with fail
    refine (HQ.out _).mono ?_
    rintro e wB ⟨rfl, hb⟩
    have kB := KD.below hb
    clear hb KD
    obtain ⟨bz0, cz0, cz1, cz2, cz3, fz0, fz1, fz2, fz3⟩ := kB.2.1.four
    have HF := hide kB.2.2
    clear kB
    go_wp2_with fail
    refine bodyPost_ret (v := .agg #[.int .i64 u.a, .int .i64 u.b, .int .i64 u.c, .int .i64 u.d]) (by simp [results, Try.results21, go_sem, cz0, cz1, cz2, cz3]) rfl ⟨rfl, ?_⟩
    exact below_set4 HF.out (by omega) _ _ _ _
  · have kb := nearB_iff.1 hk
    rw [grow_near h hk]
    have HQ := hide (fun w => Norm_any ⟨cutZ (r.a - k), cutZ (r.b - k), cutZ (r.c + k), cutZ (r.d + k)⟩ w)
    obtain ⟨u, hu⟩ : ∃ u, nm ⟨cutZ (r.a - k), cutZ (r.b - k), cutZ (r.c + k), cutZ (r.d + k)⟩ = u := ⟨_, rfl⟩
    rw [hu] at HQ ⊢
    have e1 : IntKind.i64.wrap (r.a - k) = r.a - k := IntWalk.i64_in _ (by omega)
    have e2 : IntKind.i64.wrap (r.b - k) = r.b - k := IntWalk.i64_in _ (by omega)
    have e3 : IntKind.i64.wrap (r.c + k) = r.c + k := IntWalk.i64_in _ (by omega)
    have e4 : IntKind.i64.wrap (r.d + k) = r.d + k := IntWalk.i64_in _ (by omega)
    rw [h] at HE
    rw [hk] at HK
    clear h hk hu eb kb
    go_enter Try.func21, Try.ntmps21
    go_wp2_with fail
    refine (HK.out _).mono ?_
    rintro e w' ⟨rfl, rfl⟩
    go_wp2_with fail
    refine (HE.out _).mono ?_
    rintro e w1 ⟨rfl, hb⟩
    have K1 := KS.out.below hb
    clear hb
    obtain ⟨ba0, ca0, ca1, ca2, ca3, fa0, fa1, fa2, fa3⟩ := K1.1.four
    go_wp2_with fail
    refine wp_region_still_tail 21 (by kernel_rfl) (by kernel_rfl) ?_
    simp only [List.take_succ_cons, List.take_zero, List.drop_succ_cons, List.drop_zero]
    repeat (first
      | (refine wpStill_step (fun K hK => ?_); go_simp; refine hK _ ?_; clear hK K)
      | (refine wpStill_step (fun K hK => ?_); go_simp; refine ⟨_, (cut_any _ _).mono fun _ _ h => ⟨h.1, h.2.symm⟩, hK _ ?_⟩; clear hK K))
    refine wpStill_nil ?_
    change wpList _ _ _ _ _ w1.drew
    have KD := K1.drew
    clear K1 ba0 ca0 ca1 ca2 ca3 fa0 fa1 fa2 fa3
    generalize w1.drew = wD at KD ⊢
    go_wp2_with fail
    refine (HQ.out _).mono ?_
    rintro e wB ⟨rfl, hb⟩
    have kB := KD.below hb
    clear hb KD
    obtain ⟨bz0, cz0, cz1, cz2, cz3, fz0, fz1, fz2, fz3⟩ := kB.2.1.four
    have HF := hide kB.2.2
    clear kB
    go_wp2_with fail
    refine bodyPost_ret (v := .agg #[.int .i64 u.a, .int .i64 u.b, .int .i64 u.c, .int .i64 u.d]) (by simp [results, Try.results21, go_sem, cz0, cz1, cz2, cz3]) rfl ⟨rfl, ?_⟩
    exact below_set4 HF.out (by omega) _ _ _ _

theorem Grow_any_none (r : Rc) (k : Int) (w : World) (h : empB r = true) : Calls Try.prog 21 #[.agg #[.int .i64 r.a, .int .i64 r.b, .int .i64 r.c, .int .i64 r.d], .int .i64 k] w (Says w (.agg #[.int .i64 (growR r k).a, .int .i64 (growR r k).b, .int .i64 (growR r k).c, .int .i64 (growR r k).d])) := by
  have KS := hide (Pair2.start w r ⟨0, 0, 0, 0⟩)
  rw [grow_emp h]
  have HK := hide (near_any k)
  have HE := hide (fun w => Empty_any r w)
  rw [h] at HE
  clear h
  cases hk : nearB k
  all_goals
    go_enter Try.func21, Try.ntmps21
    go_wp2_with fail
    refine (HK.out _).mono ?_
    rw [hk]
    rintro e w' ⟨rfl, rfl⟩
    go_wp2_with fail
    refine (HE.out _).mono ?_
    rintro e w1 ⟨rfl, hb⟩
    have K1 := KS.out.below hb
    clear hb
    obtain ⟨bz0, cz0, cz1, cz2, cz3, fz0, fz1, fz2, fz3⟩ := K1.2.1.four
    have hfin := hide K1.2.2
    go_wp2_with fail
    refine bodyPost_ret (v := .agg #[.int .i64 0, .int .i64 0, .int .i64 0, .int .i64 0]) (by simp [results, Try.results21, go_sem, cz0, cz1, cz2, cz3]) rfl ⟨rfl, ?_⟩
    exact below_set4 hfin.out (by omega) _ _ _ _

theorem Grow_any (r : Rc) (k : Int) (w : World) : Calls Try.prog 21 #[.agg #[.int .i64 r.a, .int .i64 r.b, .int .i64 r.c, .int .i64 r.d], .int .i64 k] w (Says w (.agg #[.int .i64 (growR r k).a, .int .i64 (growR r k).b, .int .i64 (growR r k).c, .int .i64 (growR r k).d])) := by
  cases h : empB r
  · exact Grow_any_some r k w h
  · exact Grow_any_none r k w h

end Go.Proofs.Ytghnaocejbiidaa
