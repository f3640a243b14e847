/-
The law RectOnes: its walk. No statement is proved here.
-/
import Derived.Test.YtghnaocejbiidaaAlive6
namespace Go.Proofs.Ytghnaocejbiidaa
open Go.RowKit

set_option maxHeartbeats 4000000 in
theorem RectOnes_walk (r : Rc) (x y : Int) (w : World) : Calls Try.prog 3 #[.agg #[.int .i64 r.a, .int .i64 r.b, .int .i64 r.c, .int .i64 r.d], .int .i64 x, .int .i64 y] w (Says w (.bool true)) := by
  have H0 := hide (below_alloc w)
  have HN := hide (fun w => RNorm_any r w)
  have H1 := hide (fun w => Right_any r w)
  have H2 := hide (fun w => RRight_any r w)
  have H3 := hide (fun w => Empty_any r w)
  have H4 := hide (fun w => RArea_any r w)
  have H5 := hide (fun w => Norm_any r w)
  have H6 := hide (fun w => Has_any r x y w)
  have H7 := hide (fun w => RHas_any r x y w)
  have H8 := hide (fun w => Area_any r w)
  have H9 := hide (fun w => Grow_any r x w)
  have H10 := hide (fun w => RGrow_any r x w)
  have H11 := hide (fun w => alive6_any w)
  have hq1 := fun w => eql_rect (nm r) (nm r) w
  have hq2 := fun w => eql_rect (growR r x) (growR r x) w
  rw [decide_eq_true rfl] at hq1 hq2
  have ea := area_zero r
  obtain ⟨a, ha⟩ : ∃ a, areaZ r = a := ⟨_, rfl⟩
  rw [ha] at H4 H8 ea
  clear ha
  go_enter Try.func3, Try.ntmps3
  go_wp2_with fail
  refine (HN.out _).mono ?_
  rintro e w1 ⟨rfl, hb⟩
  have B0 := (Bx.at (g := w.heap.size) (lR r) _ rfl).below hb
  have HB := (H0.out _).trans (hb.mono (by simp))
  have K0 : Pair2 w w.heap.size w1.heap.size r (nm r) (w1.alloc (.cells #[.int .i64 (nm r).a, .int .i64 (nm r).b, .int .i64 (nm r).c, .int .i64 (nm r).d] 23)) := ⟨B0.alloc _, Bx.at (lR (nm r)) _ rfl, HB.trans (below_alloc' HB.size _)⟩
  clear hb B0 HB
  have KC := hide (fun w' (h : Pair2 w w.heap.size w1.heap.size r (nm r) w') => h.cells)
  go_wp2_with fail
  generalize w1.alloc (.cells #[.int .i64 (nm r).a, .int .i64 (nm r).b, .int .i64 (nm r).c, .int .i64 (nm r).d] 23) = w2 at K0 ⊢
  go_region_held3 (fun w' => (w'.cell? ⟨w.heap.size, 0, none⟩ = some (.int .i64 r.a) ∧ w'.cell? ⟨w.heap.size, 1, none⟩ = some (.int .i64 r.b) ∧ w'.cell? ⟨w.heap.size, 2, none⟩ = some (.int .i64 r.c) ∧ w'.cell? ⟨w.heap.size, 3, none⟩ = some (.int .i64 r.d)) ∧ w'.cell? ⟨w1.heap.size, 0, none⟩ = some (.int .i64 (nm r).a) ∧ w'.cell? ⟨w1.heap.size, 1, none⟩ = some (.int .i64 (nm r).b) ∧ w'.cell? ⟨w1.heap.size, 2, none⟩ = some (.int .i64 (nm r).c) ∧ w'.cell? ⟨w1.heap.size, 3, none⟩ = some (.int .i64 (nm r).d))
    ((refine KC.out _ ?_; repeat (first | assumption | refine Pair2.drew ?_)))
    (first
      | (go_at_call 13; refine (H1.out _).mono ?_; rintro e k1 ⟨rfl, hb⟩; have K1 : Pair2 w w.heap.size w1.heap.size r (nm r) k1 := Pair2.below (by repeat (first | assumption | refine Pair2.drew ?_)) hb; clear hb)
      | (go_at_call 14; refine (H2.out _).mono ?_; rintro e k2 ⟨rfl, hb⟩; have K2 : Pair2 w w.heap.size w1.heap.size r (nm r) k2 := Pair2.below (by repeat (first | assumption | refine Pair2.drew ?_)) hb; clear hb)
      | (go_at_call 15; refine (H3.out _).mono ?_; rintro e k3 ⟨rfl, hb⟩; have K3 : Pair2 w w.heap.size w1.heap.size r (nm r) k3 := Pair2.below (by repeat (first | assumption | refine Pair2.drew ?_)) hb; clear hb)
      | (go_at_call 16; refine (H4.out _).mono ?_; rintro e k4 ⟨rfl, hb⟩; have K4 : Pair2 w w.heap.size w1.heap.size r (nm r) k4 := Pair2.below (by repeat (first | assumption | refine Pair2.drew ?_)) hb; clear hb)
      | (go_at_call 17; refine (H5.out _).mono ?_; rintro e k5 ⟨rfl, hb⟩; have K5 : Pair2 w w.heap.size w1.heap.size r (nm r) k5 := Pair2.below (by repeat (first | assumption | refine Pair2.drew ?_)) hb; clear hb)
      | (go_at_call 18; refine (H6.out _).mono ?_; rintro e k6 ⟨rfl, hb⟩; have K6 : Pair2 w w.heap.size w1.heap.size r (nm r) k6 := Pair2.below (by repeat (first | assumption | refine Pair2.drew ?_)) hb; clear hb)
      | (go_at_call 19; refine (H7.out _).mono ?_; rintro e k7 ⟨rfl, hb⟩; have K7 : Pair2 w w.heap.size w1.heap.size r (nm r) k7 := Pair2.below (by repeat (first | assumption | refine Pair2.drew ?_)) hb; clear hb)
      | (go_at_call 20; refine (H8.out _).mono ?_; rintro e k8 ⟨rfl, hb⟩; have K8 : Pair2 w w.heap.size w1.heap.size r (nm r) k8 := Pair2.below (by repeat (first | assumption | refine Pair2.drew ?_)) hb; clear hb)
      | (go_at_call 21; refine (H9.out _).mono ?_; rintro e k9 ⟨rfl, hb⟩; have K9 : Pair2 w w.heap.size w1.heap.size r (nm r) k9 := Pair2.below (by repeat (first | assumption | refine Pair2.drew ?_)) hb; clear hb)
      | (go_at_call 22; refine (H10.out _).mono ?_; rintro e k10 ⟨rfl, hb⟩; have K10 : Pair2 w w.heap.size w1.heap.size r (nm r) k10 := Pair2.below (by repeat (first | assumption | refine Pair2.drew ?_)) hb; clear hb)
      | (go_at_call 23; refine (H11.out _).mono ?_; rintro e k11 ⟨rfl, hb⟩; have K11 : Pair2 w w.heap.size w1.heap.size r (nm r) k11 := Pair2.below (by repeat (first | assumption | refine Pair2.drew ?_)) hb; clear hb))
  go_wp2_with fail
  go_ret
  exact ⟨rfl, K11.2.2⟩

end Go.Proofs.Ytghnaocejbiidaa
