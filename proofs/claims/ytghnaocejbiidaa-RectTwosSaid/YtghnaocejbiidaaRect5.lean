/-
Contracts of package rect and of its reference: what is around two, whether one is in the other. No statement is proved here.
-/
import Derived.Test.YtghnaocejbiidaaRect4
namespace Go.Proofs.Ytghnaocejbiidaa
open Go.RowKit

theorem around_l {r s : Rc} (h : empB r = true) : aroundR r s = nm s := by simp [aroundR, h]
theorem around_r {r s : Rc} (h : empB r = false) (k : empB s = true) : aroundR r s = r := by simp [aroundR, h, k]
theorem around_n {r s : Rc} (h : empB r = false) (k : empB s = false) : aroundR r s = ⟨min r.a s.a, min r.b s.b, max r.c s.c, max r.d s.d⟩ := by simp [aroundR, h, k]

set_option maxHeartbeats 1000000 in
theorem Around_any (r s : Rc) (w : World) : Calls Try.prog 25 #[.agg #[.int .i64 r.a, .int .i64 r.b, .int .i64 r.c, .int .i64 r.d], .agg #[.int .i64 s.a, .int .i64 s.b, .int .i64 s.c, .int .i64 s.d]] w (Says w (.agg #[.int .i64 (aroundR r s).a, .int .i64 (aroundR r s).b, .int .i64 (aroundR r s).c, .int .i64 (aroundR r s).d])) := by
  have HR := hide (fun w => Empty_any r w)
  have HS := hide (fun w => Empty_any s w)
  have HN := hide (fun w => Norm_any s w)
  have hx := if_max
  have hn := if_min
  have KS := hide (Keep2.start w r s ⟨0, 0, 0, 0⟩)
  cases h : empB r
  · cases k : empB s
    · rw [around_n h k]
      rw [h] at HR
      rw [k] at HS
      clear h k
      go_enter Try.func25, Try.ntmps25
      go_wp2_with fail
      refine (HR.out _).mono ?_
      rintro e w1 ⟨rfl, hb⟩
      have K1 := hide (KS.out.below hb)
      clear hb
      obtain ⟨bb0, cb0, cb1, cb2, cb3, fb0, fb1, fb2, fb3⟩ := K1.out.2.1.four
      go_wp2_with fail
      refine (HS.out _).mono ?_
      rintro e w2 ⟨rfl, hb⟩
      have K2 := hide (K1.out.below hb)
      clear hb bb0 cb0 cb1 cb2 cb3 fb0 fb1 fb2 fb3
      obtain ⟨ba0, ca0, ca1, ca2, ca3, fa0, fa1, fa2, fa3⟩ := K2.out.1.four
      obtain ⟨bb0, cb0, cb1, cb2, cb3, fb0, fb1, fb2, fb3⟩ := K2.out.2.1.four
      obtain ⟨bz0, cz0, cz1, cz2, cz3, fz0, fz1, fz2, fz3⟩ := K2.out.2.2.1.four
      go_wp2_with fail
      refine bodyPost_ret (v := .agg #[.int .i64 (min r.a s.a), .int .i64 (min r.b s.b), .int .i64 (max r.c s.c), .int .i64 (max r.d s.d)]) (by simp [results, Try.results25, go_sem, cz0, cz1, cz2, cz3]) rfl ⟨rfl, ?_⟩
      exact below_set4 K2.out.2.2.2 (by omega) _ _ _ _
    · rw [around_r h k]
      rw [h] at HR
      rw [k] at HS
      clear h k
      go_enter Try.func25, Try.ntmps25
      go_wp2_with fail
      refine (HR.out _).mono ?_
      rintro e w1 ⟨rfl, hb⟩
      have K1 := hide (KS.out.below hb)
      clear hb
      obtain ⟨bb0, cb0, cb1, cb2, cb3, fb0, fb1, fb2, fb3⟩ := K1.out.2.1.four
      go_wp2_with fail
      refine (HS.out _).mono ?_
      rintro e w2 ⟨rfl, hb⟩
      have K2 := hide (K1.out.below hb)
      clear hb bb0 cb0 cb1 cb2 cb3 fb0 fb1 fb2 fb3
      obtain ⟨ba0, ca0, ca1, ca2, ca3, fa0, fa1, fa2, fa3⟩ := K2.out.1.four
      obtain ⟨bz0, cz0, cz1, cz2, cz3, fz0, fz1, fz2, fz3⟩ := K2.out.2.2.1.four
      go_wp2_with fail
      refine bodyPost_ret (v := .agg #[.int .i64 r.a, .int .i64 r.b, .int .i64 r.c, .int .i64 r.d]) (by simp [results, Try.results25, go_sem, cz0, cz1, cz2, cz3]) rfl ⟨rfl, ?_⟩
      exact below_set4 K2.out.2.2.2 (by omega) _ _ _ _
  · rw [around_l h]
    rw [h] at HR
    clear h
    obtain ⟨q, hq⟩ : ∃ q, nm s = q := ⟨_, rfl⟩
    rw [hq] at HN ⊢
    clear hq
    go_enter Try.func25, Try.ntmps25
    go_wp2_with fail
    refine (HR.out _).mono ?_
    rintro e w1 ⟨rfl, hb⟩
    have K1 := hide (KS.out.below hb)
    clear hb
    obtain ⟨bb0, cb0, cb1, cb2, cb3, fb0, fb1, fb2, fb3⟩ := K1.out.2.1.four
    go_wp2_with fail
    refine (HN.out _).mono ?_
    rintro e w2 ⟨rfl, hb⟩
    have K2 := hide (K1.out.below hb)
    clear hb bb0 cb0 cb1 cb2 cb3 fb0 fb1 fb2 fb3
    obtain ⟨bz0, cz0, cz1, cz2, cz3, fz0, fz1, fz2, fz3⟩ := K2.out.2.2.1.four
    go_wp2_with fail
    refine bodyPost_ret (v := .agg #[.int .i64 q.a, .int .i64 q.b, .int .i64 q.c, .int .i64 q.d]) (by simp [results, Try.results25, go_sem, cz0, cz1, cz2, cz3]) rfl ⟨rfl, ?_⟩
    exact below_set4 K2.out.2.2.2 (by omega) _ _ _ _

end Go.Proofs.Ytghnaocejbiidaa
