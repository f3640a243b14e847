/-
Contracts of package rect and of its reference: what two have, what is around two, with more on each side. No statement is proved here.
-/
import Derived.Test.YtghnaocejbiidaaRect3
import Derived.Deep.DeepCutAuto
namespace Go.Proofs.Ytghnaocejbiidaa
open Go.RowKit

theorem if_max (a b : Int) : (if a < b then b else a) = max a b := by split <;> omega
theorem if_min (a b : Int) : (if b < a then b else a) = min a b := by split <;> omega
theorem cut_any (x : Int) (w : World) : Calls Try.prog 49 #[.int .i64 x] w fun e w' => e = .returned (.int .i64 (cutZ x)) ∧ w = w' := by
  have hx := if_max
  have hn := if_min
  go_enter Try.func49, Try.ntmps49
  go_wp2_with fail
  go_ret
  exact ⟨by simp [cutZ]; omega, rfl⟩
theorem rcut_any (x : Int) (w : World) : Calls Try.prog 50 #[.int .i64 x] w fun e w' => e = .returned (.int .i64 (cutZ x)) ∧ w = w' := by
  have hx := if_max
  have hn := if_min
  go_enter Try.func50, Try.ntmps50
  go_wp2_with fail
  go_ret
  exact ⟨rfl, rfl⟩

/-- a rectangle's numbers -/
abbrev lR (r : Rc) : List Value := [.int .i64 r.a, .int .i64 r.b, .int .i64 r.c, .int .i64 r.d]

set_option maxHeartbeats 1000000 in
theorem RBoth_any (r s : Rc) (w : World) : Calls Try.prog 27 #[.agg #[.int .i64 r.a, .int .i64 r.b, .int .i64 r.c, .int .i64 r.d], .agg #[.int .i64 s.a, .int .i64 s.b, .int .i64 s.c, .int .i64 s.d]] w (Says w (.agg #[.int .i64 (bothR r s).a, .int .i64 (bothR r s).b, .int .i64 (bothR r s).c, .int .i64 (bothR r s).d])) := by
  have H := hide (below_alloc3 w)
  have HR := hide (fun w => RNorm_any r w)
  have HS := hide (fun w => RNorm_any s w)
  have HQ := hide (fun w => RNorm_any ⟨max (nm r).a (nm s).a, max (nm r).b (nm s).b, min (nm r).c (nm s).c, min (nm r).d (nm s).d⟩ w)
  have hQ : nm ⟨max (nm r).a (nm s).a, max (nm r).b (nm s).b, min (nm r).c (nm s).c, min (nm r).d (nm s).d⟩ = bothR r s := rfl
  rw [hQ] at HQ
  obtain ⟨u, hu⟩ : ∃ u, bothR r s = u := ⟨_, rfl⟩
  rw [hu] at HQ ⊢
  obtain ⟨p, hp⟩ : ∃ p, nm r = p := ⟨_, rfl⟩
  obtain ⟨q, hq⟩ : ∃ q, nm s = q := ⟨_, rfl⟩
  rw [hp] at HR HQ
  rw [hq] at HS HQ
  clear hQ hu hp hq
  have hx := if_max
  have hn := if_min
  go_enter Try.func27, Try.ntmps27
  go_wp2_with fail
  refine (HR.out _).mono ?_
  rintro e w1 ⟨rfl, hb⟩
  have BS := hide (((Bx.at (g := w.heap.size + 1) (lR s) _ (by simp)).alloc _).below hb)
  have BZ := hide ((Bx.at (g := w.heap.size + 1 + 1) (lR ⟨0, 0, 0, 0⟩) _ (by simp)).below hb)
  have HB := hide ((H.out _ _ _).trans (hb.mono (by simp; omega)))
  clear hb
  obtain ⟨bs, s0, s1, s2, s3, _, _, _, _⟩ := BS.out.four
  obtain ⟨bz, _, _, _, _, _, _, _, _⟩ := BZ.out.four
  go_wp2_with fail
  refine (HS.out _).mono ?_
  rintro e w2 ⟨rfl, hb⟩
  have BP2 := hide ((Bx.at (g := w1.heap.size) (lR p) _ (by simp)).below hb)
  have BZ2 := hide ((BZ.out.alloc _).below hb)
  have HB2 := hide ((HB.out.alloc (by omega) _).trans (hb.mono (by simp; omega)))
  clear hb s0 s1 s2 s3 bs BS
  obtain ⟨bp, p0, p1, p2, p3, _, _, _, _⟩ := BP2.out.four
  obtain ⟨bz2, _, _, _, _, _, _, _, _⟩ := BZ2.out.four
  go_wp2_with fail
  refine (HQ.out _).mono ?_
  rintro e w3 ⟨rfl, hb⟩
  have BZ3 := hide ((BZ2.out.alloc _).below hb)
  have HB3 := hide ((HB2.out.alloc (by omega) _).trans (hb.mono (by simp; omega)))
  clear hb p0 p1 p2 p3 bp BP2
  obtain ⟨bz3, z0, z1, z2, z3, y0, y1, y2, y3⟩ := BZ3.out.four
  go_wp2_with fail
  refine bodyPost_ret (v := .agg #[.int .i64 u.a, .int .i64 u.b, .int .i64 u.c, .int .i64 u.d]) (by simp [results, Try.results27, go_sem, z0, z1, z2, z3]) rfl ⟨rfl, ?_⟩
  exact below_set4 HB3.out (by omega) _ _ _ _

/-- three boxes: two rectangles and the answer's -/
def Keep2 (w : World) (r s u : Rc) (w' : World) : Prop := Bx w' w.heap.size (lR r) ∧ Bx w' (w.heap.size + 1) (lR s) ∧ Bx w' (w.heap.size + 1 + 1) (lR u) ∧ Below w.heap.size w w'
theorem Keep2.below {w : World} {r s u : Rc} {w1 w2 : World} (h : Keep2 w r s u w1) (hb : Below w1.heap.size w1 w2) : Keep2 w r s u w2 :=
  ⟨h.1.below hb, h.2.1.below hb, h.2.2.1.below hb, h.2.2.2.trans (hb.mono h.2.2.2.size)⟩
theorem Keep2.drew {w : World} {r s u : Rc} {w1 : World} (h : Keep2 w r s u w1) : Keep2 w r s u w1.drew := ⟨h.1, h.2.1, h.2.2.1, h.2.2.2.drew⟩
theorem Keep2.start (w : World) (r s u : Rc) : Keep2 w r s u (((w.alloc (.cells #[.int .i64 r.a, .int .i64 r.b, .int .i64 r.c, .int .i64 r.d] 23)).alloc (.cells #[.int .i64 s.a, .int .i64 s.b, .int .i64 s.c, .int .i64 s.d] 23)).alloc (.cells #[.int .i64 u.a, .int .i64 u.b, .int .i64 u.c, .int .i64 u.d] 23)) :=
  ⟨((Bx.at (lR r) _ rfl).alloc _).alloc _, (Bx.at (lR s) _ (by simp)).alloc _, Bx.at (lR u) _ (by simp), below_alloc3 w _ _ _⟩
theorem Keep2.swap {w : World} {r s u : Rc} {w' : World} (h : Keep2 w r s u w') (p q : Rc) : Keep2 w p q u
    ((((((((w'.setCell ⟨w.heap.size, 0, none⟩ (.int .i64 p.a)).setCell ⟨w.heap.size, 1, none⟩ (.int .i64 p.b)).setCell ⟨w.heap.size, 2, none⟩ (.int .i64 p.c)).setCell ⟨w.heap.size, 3, none⟩ (.int .i64 p.d)).setCell ⟨w.heap.size + 1, 0, none⟩ (.int .i64 q.a)).setCell ⟨w.heap.size + 1, 1, none⟩ (.int .i64 q.b)).setCell ⟨w.heap.size + 1, 2, none⟩ (.int .i64 q.c)).setCell ⟨w.heap.size + 1, 3, none⟩ (.int .i64 q.d)) :=
  ⟨(h.1.set4 _ _ _ _).other4 (by omega) _ _ _ _, (h.2.1.other4 (by omega) _ _ _ _).set4 _ _ _ _, (h.2.2.1.other4 (by omega) _ _ _ _).other4 (by omega) _ _ _ _, below_set4 (below_set4 h.2.2.2 (Nat.le_refl _) _ _ _ _) (by omega) _ _ _ _⟩

set_option maxHeartbeats 2000000 in
theorem Both_any (r s : Rc) (w : World) : Calls Try.prog 24 #[.agg #[.int .i64 r.a, .int .i64 r.b, .int .i64 r.c, .int .i64 r.d], .agg #[.int .i64 s.a, .int .i64 s.b, .int .i64 s.c, .int .i64 s.d]] w (Says w (.agg #[.int .i64 (bothR r s).a, .int .i64 (bothR r s).b, .int .i64 (bothR r s).c, .int .i64 (bothR r s).d])) := by
  have HR := hide (fun w => Norm_any r w)
  have HS := hide (fun w => Norm_any s w)
  have HQ := hide (fun w => Norm_any ⟨max (nm r).a (nm s).a, max (nm r).b (nm s).b, min (nm r).c (nm s).c, min (nm r).d (nm s).d⟩ w)
  have hQ : nm ⟨max (nm r).a (nm s).a, max (nm r).b (nm s).b, min (nm r).c (nm s).c, min (nm r).d (nm s).d⟩ = bothR r s := rfl
  rw [hQ] at HQ
  obtain ⟨u, hu⟩ : ∃ u, bothR r s = u := ⟨_, rfl⟩
  rw [hu] at HQ ⊢
  obtain ⟨p, hp⟩ : ∃ p, nm r = p := ⟨_, rfl⟩
  obtain ⟨q, hq⟩ : ∃ q, nm s = q := ⟨_, rfl⟩
  rw [hp] at HR HQ
  rw [hq] at HS HQ
  clear hQ hu hp hq
  have hx := if_max
  have hn := if_min
  have KS := hide (Keep2.start w r s ⟨0, 0, 0, 0⟩)
  go_enter Try.func24, Try.ntmps24
  go_upto_region 1 with fail
  go_cut [2] (fun s2 wx => s2 = .pointer (some ⟨w.heap.size, 0, none⟩) ∧ Keep2 w p q ⟨0, 0, 0, 0⟩ wx)
  case first =>
    go_region_with (first
      | (go_at_call_of 17 (Value.agg #[.int .i64 r.a, .int .i64 r.b, .int .i64 r.c, .int .i64 r.d]); refine (HR.out _).mono ?_; rintro e wA ⟨rfl, hb⟩; have kA : Keep2 w r s ⟨0, 0, 0, 0⟩ wA := Keep2.below (by repeat (first | assumption | exact KS.out | refine Keep2.drew ?_)) hb; clear hb; obtain ⟨ba0, ca0, ca1, ca2, ca3, fa0, fa1, fa2, fa3⟩ := kA.1.four; obtain ⟨bb0, cb0, cb1, cb2, cb3, fb0, fb1, fb2, fb3⟩ := kA.2.1.four)
      | (go_at_call_of 17 (Value.agg #[.int .i64 s.a, .int .i64 s.b, .int .i64 s.c, .int .i64 s.d]); refine (HS.out _).mono ?_; rintro e wB ⟨rfl, hb⟩; have kB : Keep2 w r s ⟨0, 0, 0, 0⟩ wB := Keep2.below (by repeat (first | assumption | exact KS.out | refine Keep2.drew ?_)) hb; clear hb; obtain ⟨da0, ea0, ea1, ea2, ea3, ga0, ga1, ga2, ga3⟩ := kB.1.four; obtain ⟨db0, eb0, eb1, eb2, eb3, gb0, gb1, gb2, gb3⟩ := kB.2.1.four))
    all_goals (go_wp2_with fail; go_meet; exact ⟨rfl, kB.swap p q⟩)
  case rest =>
    obtain ⟨rfl, hk⟩ := hcut
    obtain ⟨ba0, ca0, ca1, ca2, ca3, fa0, fa1, fa2, fa3⟩ := hk.1.four
    obtain ⟨bb0, cb0, cb1, cb2, cb3, fb0, fb1, fb2, fb3⟩ := hk.2.1.four
    obtain ⟨bz0, cz0, cz1, cz2, cz3, fz0, fz1, fz2, fz3⟩ := hk.2.2.1.four
    have HK := hide hk
    clear hk
    go_wp2_with fail
    refine (HQ.out _).mono ?_
    rintro e w1 ⟨rfl, hb⟩
    have HK1 := hide (HK.out.below hb)
    clear hb ba0 ca0 ca1 ca2 ca3 fa0 fa1 fa2 fa3 bb0 cb0 cb1 cb2 cb3 fb0 fb1 fb2 fb3 bz0 cz0 cz1 cz2 cz3 fz0 fz1 fz2 fz3
    obtain ⟨bz0, cz0, cz1, cz2, cz3, fz0, fz1, fz2, fz3⟩ := HK1.out.2.2.1.four
    go_wp2_with fail
    refine bodyPost_ret (v := .agg #[.int .i64 u.a, .int .i64 u.b, .int .i64 u.c, .int .i64 u.d]) (by simp [results, Try.results24, go_sem, cz0, cz1, cz2, cz3]) rfl ⟨rfl, ?_⟩
    exact below_set4 HK1.out.2.2.2 (by omega) _ _ _ _

end Go.Proofs.Ytghnaocejbiidaa
