/-
Contracts of package rect and of its reference: what is around two (reference), whether one is in the other. No statement is proved here.
-/
import Derived.Test.YtghnaocejbiidaaRect5
namespace Go.Proofs.Ytghnaocejbiidaa
open Go.RowKit

set_option maxHeartbeats 1000000 in
theorem RAround_any (r s : Rc) (w : World) : Calls Try.prog 28 #[.agg #[.int .i64 r.a, .int .i64 r.b, .int .i64 r.c, .int .i64 r.d], .agg #[.int .i64 s.a, .int .i64 s.b, .int .i64 s.c, .int .i64 s.d]] w (Says w (.agg #[.int .i64 (aroundR r s).a, .int .i64 (aroundR r s).b, .int .i64 (aroundR r s).c, .int .i64 (aroundR r s).d])) := by
  have HR := hide (fun w => RNorm_any r w)
  have HS := hide (fun w => RNorm_any s w)
  have HA := hide (fun w => RArea_any (nm r) w)
  have HB := hide (fun w => RArea_any (nm s) w)
  have EA := area_zero (nm r)
  have EB := area_zero (nm s)
  rw [emp_nm] at EA EB
  have hx := if_max
  have hn := if_min
  have KS := hide (Keep2.start w r s ⟨0, 0, 0, 0⟩)
  obtain ⟨u, hu⟩ : ∃ u, aroundR r s = u := ⟨_, rfl⟩
  rw [hu]
  obtain ⟨p, hp⟩ : ∃ p, nm r = p := ⟨_, rfl⟩
  obtain ⟨q, hq⟩ : ∃ q, nm s = q := ⟨_, rfl⟩
  have FU := Lib.hid hu
  have FP := Lib.hid hp
  have FQ := Lib.hid hq
  rw [hp] at HR HA EA
  rw [hq] at HS HB EB
  clear hu hp hq
  cases h : empB r
  · cases k : empB s
    · obtain rfl : p = r := by rw [← FP.out, nm_not h]
      obtain rfl : q = s := by rw [← FQ.out, nm_not k]
      have hU := (FU.out.symm.trans (around_n h k))
      subst hU
      rw [h] at EA
      rw [k] at EB
      clear h k FU FP FQ
      go_enter Try.func28, Try.ntmps28
      go_wp2_with fail
      refine (HR.out _).mono ?_
      rintro e w1 ⟨rfl, hb⟩
      have K1 := hide (KS.out.below hb)
      clear hb
      obtain ⟨bb0, cb0, cb1, cb2, cb3, fb0, fb1, fb2, fb3⟩ := K1.out.2.1.four
      have hl1 := K1.out.2.2.2.size
      go_wp2_with fail
      refine (HS.out _).mono ?_
      rintro e w2 ⟨rfl, hb⟩
      have P2 := hide ((Bx.at (g := w1.heap.size) (lR p) _ rfl).below hb)
      have K2 := hide ((K1.out.below (below_alloc w1 _)).below hb)
      clear hb bb0 cb0 cb1 cb2 cb3 fb0 fb1 fb2 fb3
      obtain ⟨ba0, ca0, ca1, ca2, ca3, fa0, fa1, fa2, fa3⟩ := P2.out.four
      go_wp2_with fail
      refine (HA.out _).mono ?_
      rintro e w3 ⟨rfl, hb⟩
      have P3 := hide ((P2.out.alloc _).below hb)
      have Q3 := hide ((Bx.at (g := w2.heap.size) (lR q) _ rfl).below hb)
      have K3 := hide ((K2.out.below (below_alloc w2 _)).below hb)
      clear hb ba0 ca0 ca1 ca2 ca3 fa0 fa1 fa2 fa3
      obtain ⟨bb0, cb0, cb1, cb2, cb3, fb0, fb1, fb2, fb3⟩ := Q3.out.four
      go_wp2_with fail
      refine (HB.out _).mono ?_
      rintro e w4 ⟨rfl, hb⟩
      have P4 := hide (P3.out.below hb)
      have Q4 := hide (Q3.out.below hb)
      have K4 := hide (K3.out.below hb)
      clear hb bb0 cb0 cb1 cb2 cb3 fb0 fb1 fb2 fb3
      obtain ⟨ba0, ca0, ca1, ca2, ca3, fa0, fa1, fa2, fa3⟩ := P4.out.four
      obtain ⟨bb0, cb0, cb1, cb2, cb3, fb0, fb1, fb2, fb3⟩ := Q4.out.four
      obtain ⟨bz0, cz0, cz1, cz2, cz3, fz0, fz1, fz2, fz3⟩ := K4.out.2.2.1.four
      go_wp2_with fail
      refine bodyPost_ret (v := .agg #[.int .i64 (min p.a q.a), .int .i64 (min p.b q.b), .int .i64 (max p.c q.c), .int .i64 (max p.d q.d)]) (by simp [results, Try.results28, go_sem, cz0, cz1, cz2, cz3]) rfl ⟨rfl, ?_⟩
      exact below_set4 K4.out.2.2.2 (by omega) _ _ _ _
    · obtain rfl : p = r := by rw [← FP.out, nm_not h]
      have hU := (FU.out.symm.trans (around_r h k))
      obtain rfl := hU.symm
      rw [h] at EA
      rw [k] at EB
      clear h k FU FP FQ
      go_enter Try.func28, Try.ntmps28
      go_wp2_with fail
      refine (HR.out _).mono ?_
      rintro e w1 ⟨rfl, hb⟩
      have K1 := hide (KS.out.below hb)
      clear hb
      obtain ⟨bb0, cb0, cb1, cb2, cb3, fb0, fb1, fb2, fb3⟩ := K1.out.2.1.four
      have hl1 := K1.out.2.2.2.size
      go_wp2_with fail
      refine (HS.out _).mono ?_
      rintro e w2 ⟨rfl, hb⟩
      have P2 := hide ((Bx.at (g := w1.heap.size) (lR p) _ rfl).below hb)
      have K2 := hide ((K1.out.below (below_alloc w1 _)).below hb)
      clear hb bb0 cb0 cb1 cb2 cb3 fb0 fb1 fb2 fb3
      obtain ⟨ba0, ca0, ca1, ca2, ca3, fa0, fa1, fa2, fa3⟩ := P2.out.four
      go_wp2_with fail
      refine (HA.out _).mono ?_
      rintro e w3 ⟨rfl, hb⟩
      have P3 := hide ((P2.out.alloc _).below hb)
      have Q3 := hide ((Bx.at (g := w2.heap.size) (lR q) _ rfl).below hb)
      have K3 := hide ((K2.out.below (below_alloc w2 _)).below hb)
      clear hb ba0 ca0 ca1 ca2 ca3 fa0 fa1 fa2 fa3
      obtain ⟨bb0, cb0, cb1, cb2, cb3, fb0, fb1, fb2, fb3⟩ := Q3.out.four
      go_wp2_with fail
      refine (HB.out _).mono ?_
      rintro e w4 ⟨rfl, hb⟩
      have P4 := hide (P3.out.below hb)
      have Q4 := hide (Q3.out.below hb)
      have K4 := hide (K3.out.below hb)
      clear hb bb0 cb0 cb1 cb2 cb3 fb0 fb1 fb2 fb3
      obtain ⟨ba0, ca0, ca1, ca2, ca3, fa0, fa1, fa2, fa3⟩ := P4.out.four
      obtain ⟨bz0, cz0, cz1, cz2, cz3, fz0, fz1, fz2, fz3⟩ := K4.out.2.2.1.four
      go_wp2_with fail
      refine bodyPost_ret (v := .agg #[.int .i64 p.a, .int .i64 p.b, .int .i64 p.c, .int .i64 p.d]) (by simp [results, Try.results28, go_sem, cz0, cz1, cz2, cz3]) rfl ⟨rfl, ?_⟩
      exact below_set4 K4.out.2.2.2 (by omega) _ _ _ _
  · have hU := (FU.out.symm.trans (around_l h)).trans FQ.out
    obtain rfl := hU.symm
    rw [h] at EA
    clear h FU FP FQ
    go_enter Try.func28, Try.ntmps28
    go_wp2_with fail
    refine (HR.out _).mono ?_
    rintro e w1 ⟨rfl, hb⟩
    have K1 := hide (KS.out.below hb)
    clear hb
    obtain ⟨bb0, cb0, cb1, cb2, cb3, fb0, fb1, fb2, fb3⟩ := K1.out.2.1.four
    have hl1 := K1.out.2.2.2.size
    go_wp2_with fail
    refine (HS.out _).mono ?_
    rintro e w2 ⟨rfl, hb⟩
    have P2 := hide ((Bx.at (g := w1.heap.size) (lR p) _ rfl).below hb)
    have K2 := hide ((K1.out.below (below_alloc w1 _)).below hb)
    clear hb bb0 cb0 cb1 cb2 cb3 fb0 fb1 fb2 fb3
    obtain ⟨ba0, ca0, ca1, ca2, ca3, fa0, fa1, fa2, fa3⟩ := P2.out.four
    go_wp2_with fail
    refine (HA.out _).mono ?_
    rintro e w3 ⟨rfl, hb⟩
    have P3 := hide ((P2.out.alloc _).below hb)
    have Q3 := hide ((Bx.at (g := w2.heap.size) (lR q) _ rfl).below hb)
    have K3 := hide ((K2.out.below (below_alloc w2 _)).below hb)
    clear hb ba0 ca0 ca1 ca2 ca3 fa0 fa1 fa2 fa3
    obtain ⟨bb0, cb0, cb1, cb2, cb3, fb0, fb1, fb2, fb3⟩ := Q3.out.four
    obtain ⟨bz0, cz0, cz1, cz2, cz3, fz0, fz1, fz2, fz3⟩ := K3.out.2.2.1.four
    go_wp2_with fail
    refine bodyPost_ret (v := .agg #[.int .i64 q.a, .int .i64 q.b, .int .i64 q.c, .int .i64 q.d]) (by simp [results, Try.results28, go_sem, cz0, cz1, cz2, cz3]) rfl ⟨rfl, ?_⟩
    exact below_set4 K3.out.2.2.2 (by omega) _ _ _ _


end Go.Proofs.Ytghnaocejbiidaa
