/-
Contracts of package rect and of its reference: whether one is in the other, with more on each side. No statement is proved here.
-/
import Derived.Test.YtghnaocejbiidaaRect6
namespace Go.Proofs.Ytghnaocejbiidaa
open Go.RowKit

/-- two boxes of rectangles -/
def Pair2 (w : World) (g h : Nat) (r s : Rc) (w' : World) : Prop := Bx w' g (lR r) ∧ Bx w' h (lR s) ∧ Below w.heap.size w w'
theorem Pair2.below {w : World} {g h : Nat} {r s : Rc} {w1 w2 : World} (k : Pair2 w g h r s w1) (hb : Below w1.heap.size w1 w2) : Pair2 w g h r s w2 := ⟨k.1.below hb, k.2.1.below hb, k.2.2.trans (hb.mono k.2.2.size)⟩
theorem Pair2.drew {w : World} {g h : Nat} {r s : Rc} {w1 : World} (k : Pair2 w g h r s w1) : Pair2 w g h r s w1.drew := ⟨k.1, k.2.1, k.2.2.drew⟩
theorem Pair2.start (w : World) (r s : Rc) : Pair2 w w.heap.size (w.heap.size + 1) r s ((w.alloc (.cells #[.int .i64 r.a, .int .i64 r.b, .int .i64 r.c, .int .i64 r.d] 23)).alloc (.cells #[.int .i64 s.a, .int .i64 s.b, .int .i64 s.c, .int .i64 s.d] 23)) :=
  ⟨(Bx.at (lR r) _ rfl).alloc _, Bx.at (lR s) _ (by simp), below_alloc2 w _ _⟩
theorem Pair2.one {w : World} {g h : Nat} {r s : Rc} {w' : World} (k : Pair2 w g h r s w') : w'.cell? ⟨g, 0, none⟩ = some (.int .i64 r.a) ∧ w'.cell? ⟨g, 1, none⟩ = some (.int .i64 r.b) ∧ w'.cell? ⟨g, 2, none⟩ = some (.int .i64 r.c) ∧ w'.cell? ⟨g, 3, none⟩ = some (.int .i64 r.d) := by
  obtain ⟨_, a0, a1, a2, a3, _, _, _, _⟩ := k.1.four
  exact ⟨a0, a1, a2, a3⟩
theorem Pair2.cells {w : World} {g h : Nat} {r s : Rc} {w' : World} (k : Pair2 w g h r s w') :
    (w'.cell? ⟨g, 0, none⟩ = some (.int .i64 r.a) ∧ w'.cell? ⟨g, 1, none⟩ = some (.int .i64 r.b) ∧ w'.cell? ⟨g, 2, none⟩ = some (.int .i64 r.c) ∧ w'.cell? ⟨g, 3, none⟩ = some (.int .i64 r.d)) ∧ w'.cell? ⟨h, 0, none⟩ = some (.int .i64 s.a) ∧ w'.cell? ⟨h, 1, none⟩ = some (.int .i64 s.b) ∧ w'.cell? ⟨h, 2, none⟩ = some (.int .i64 s.c) ∧ w'.cell? ⟨h, 3, none⟩ = some (.int .i64 s.d) := by
  obtain ⟨_, b0, b1, b2, b3, _, _, _, _⟩ := k.2.1.four
  exact ⟨k.one, b0, b1, b2, b3⟩
theorem Pair2.set {w : World} {g h : Nat} {r s : Rc} {w' : World} (k : Pair2 w g h r s w') (hne : g ≠ h) (hw : w.heap.size ≤ h) (u : Rc) : Pair2 w g h r u
    ((((w'.setCell ⟨h, 0, none⟩ (.int .i64 u.a)).setCell ⟨h, 1, none⟩ (.int .i64 u.b)).setCell ⟨h, 2, none⟩ (.int .i64 u.c)).setCell ⟨h, 3, none⟩ (.int .i64 u.d)) :=
  ⟨k.1.other4 hne _ _ _ _, k.2.1.set4 _ _ _ _, below_set4 k.2.2 hw _ _ _ _⟩

theorem eql_rect (r s : Rc) (w : World) : (binOp .eql 23 (.agg #[.int .i64 r.a, .int .i64 r.b, .int .i64 r.c, .int .i64 r.d]) (.agg #[.int .i64 s.a, .int .i64 s.b, .int .i64 s.c, .int .i64 s.d])).run Try.prog w = Result.ok (.bool (decide (r = s))) w := by
  cases r; cases s
  simp [go_sem]
  repeat (first | rfl | (split; simp_all) | simp_all)
theorem neq_rect (r s : Rc) (w : World) : (binOp .neq 23 (.agg #[.int .i64 r.a, .int .i64 r.b, .int .i64 r.c, .int .i64 r.d]) (.agg #[.int .i64 s.a, .int .i64 s.b, .int .i64 s.c, .int .i64 s.d])).run Try.prog w = Result.ok (.bool (!decide (r = s))) w := by
  cases r; cases s
  simp [go_sem]
  repeat (first | rfl | (split; simp_all) | simp_all)

set_option maxHeartbeats 1000000 in
theorem In_any (r s : Rc) (w : World) : Calls Try.prog 26 #[.agg #[.int .i64 r.a, .int .i64 r.b, .int .i64 r.c, .int .i64 r.d], .agg #[.int .i64 s.a, .int .i64 s.b, .int .i64 s.c, .int .i64 s.d]] w (Says w (.bool (inB r s))) := by
  have HU := hide (fun w => Both_any r s w)
  have HN := hide (fun w => Norm_any r w)
  have KS := hide (Pair2.start w r s)
  have KC := hide (fun w' (h : Pair2 w w.heap.size (w.heap.size + 1) r s w') => h.cells)
  obtain ⟨g, hg⟩ : ∃ g, inB r s = g := ⟨_, rfl⟩
  rw [hg]
  unfold inB at hg
  obtain ⟨u, hu⟩ : ∃ u, bothR r s = u := ⟨_, rfl⟩
  obtain ⟨p, hp⟩ : ∃ p, nm r = p := ⟨_, rfl⟩
  rw [hu] at HU hg
  rw [hp] at HN hg
  have hq := fun w => eql_rect u p w
  rw [hg] at hq
  clear hu hp hg
  go_enter Try.func26, Try.ntmps26
  go_wp2_with fail
  go_region_held3 (fun w' => (w'.cell? ⟨w.heap.size, 0, none⟩ = some (.int .i64 r.a) ∧ w'.cell? ⟨w.heap.size, 1, none⟩ = some (.int .i64 r.b) ∧ w'.cell? ⟨w.heap.size, 2, none⟩ = some (.int .i64 r.c) ∧ w'.cell? ⟨w.heap.size, 3, none⟩ = some (.int .i64 r.d)) ∧ w'.cell? ⟨w.heap.size + 1, 0, none⟩ = some (.int .i64 s.a) ∧ w'.cell? ⟨w.heap.size + 1, 1, none⟩ = some (.int .i64 s.b) ∧ w'.cell? ⟨w.heap.size + 1, 2, none⟩ = some (.int .i64 s.c) ∧ w'.cell? ⟨w.heap.size + 1, 3, none⟩ = some (.int .i64 s.d))
    ((refine KC.out _ ?_; repeat (first | assumption | exact KS.out | refine Pair2.drew ?_)))
    (first
      | (go_at_call 24; refine (HU.out _).mono ?_; rintro e wA ⟨rfl, hb⟩; have kA : Pair2 w w.heap.size (w.heap.size + 1) r s wA := Pair2.below (by repeat (first | assumption | exact KS.out | refine Pair2.drew ?_)) hb; clear hb)
      | (go_at_call 17; refine (HN.out _).mono ?_; rintro e wB ⟨rfl, hb⟩; have kB : Pair2 w w.heap.size (w.heap.size + 1) r s wB := Pair2.below (by repeat (first | assumption | exact KS.out | refine Pair2.drew ?_)) hb; clear hb))
  go_wp2_with fail
  go_ret
  exact ⟨rfl, kB.2.2⟩

theorem grow_emp {r : Rc} {k : Int} (h : empB r = true) : growR r k = ⟨0, 0, 0, 0⟩ := by simp [growR, h]
theorem grow_near {r : Rc} {k : Int} (h : empB r = false) (hk : nearB k = true) : growR r k = nm ⟨cutZ (r.a - k), cutZ (r.b - k), cutZ (r.c + k), cutZ (r.d + k)⟩ := by simp [growR, nearZ, h, hk]
theorem grow_far {r : Rc} {k : Int} (h : empB r = false) (hk : nearB k = false) : growR r k = nm ⟨cutZ r.a, cutZ r.b, cutZ r.c, cutZ r.d⟩ := by simp [growR, nearZ, h, hk]

end Go.Proofs.Ytghnaocejbiidaa
