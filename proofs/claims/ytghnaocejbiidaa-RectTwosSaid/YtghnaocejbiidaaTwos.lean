/-
The law RectTwos: its walk. No statement is proved here.
-/
import Derived.Test.YtghnaocejbiidaaAlive6
import Derived.Lib.QuietBelow
namespace Go.Proofs.Ytghnaocejbiidaa
open Go.RowKit

/-- four boxes: two rectangles, what both have, what is around them -/
def Keep4 (w : World) (g5 g6 : Nat) (r s p q : Rc) (w' : World) : Prop := Bx w' w.heap.size (lR r) ∧ Bx w' (w.heap.size + 1) (lR s) ∧ Bx w' g5 (lR p) ∧ Bx w' g6 (lR q) ∧ Below w.heap.size w w'
theorem Keep4.below {w : World} {g h : Nat} {r s p q : Rc} {w1 w2 : World} (k : Keep4 w g h r s p q w1) (hb : Below w1.heap.size w1 w2) : Keep4 w g h r s p q w2 :=
  ⟨k.1.below hb, k.2.1.below hb, k.2.2.1.below hb, k.2.2.2.1.below hb, k.2.2.2.2.trans (hb.mono k.2.2.2.2.size)⟩
theorem Keep4.drew {w : World} {g h : Nat} {r s p q : Rc} {w1 : World} (k : Keep4 w g h r s p q w1) : Keep4 w g h r s p q w1.drew := ⟨k.1, k.2.1, k.2.2.1, k.2.2.2.1, k.2.2.2.2.drew⟩
theorem Keep4.cells {w : World} {g h : Nat} {r s p q : Rc} {w' : World} (k : Keep4 w g h r s p q w') : (w'.cell? ⟨w.heap.size, 0, none⟩ = some (.int .i64 r.a) ∧ w'.cell? ⟨w.heap.size, 1, none⟩ = some (.int .i64 r.b) ∧ w'.cell? ⟨w.heap.size, 2, none⟩ = some (.int .i64 r.c) ∧ w'.cell? ⟨w.heap.size, 3, none⟩ = some (.int .i64 r.d)) ∧ (w'.cell? ⟨w.heap.size + 1, 0, none⟩ = some (.int .i64 s.a) ∧ w'.cell? ⟨w.heap.size + 1, 1, none⟩ = some (.int .i64 s.b) ∧ w'.cell? ⟨w.heap.size + 1, 2, none⟩ = some (.int .i64 s.c) ∧ w'.cell? ⟨w.heap.size + 1, 3, none⟩ = some (.int .i64 s.d)) ∧ (w'.cell? ⟨g, 0, none⟩ = some (.int .i64 p.a) ∧ w'.cell? ⟨g, 1, none⟩ = some (.int .i64 p.b) ∧ w'.cell? ⟨g, 2, none⟩ = some (.int .i64 p.c) ∧ w'.cell? ⟨g, 3, none⟩ = some (.int .i64 p.d)) ∧ (w'.cell? ⟨h, 0, none⟩ = some (.int .i64 q.a) ∧ w'.cell? ⟨h, 1, none⟩ = some (.int .i64 q.b) ∧ w'.cell? ⟨h, 2, none⟩ = some (.int .i64 q.c) ∧ w'.cell? ⟨h, 3, none⟩ = some (.int .i64 q.d)) := by
  obtain ⟨_, a0, a1, a2, a3, _, _, _, _⟩ := k.1.four
  obtain ⟨_, b0, b1, b2, b3, _, _, _, _⟩ := k.2.1.four
  obtain ⟨_, c0, c1, c2, c3, _, _, _, _⟩ := k.2.2.1.four
  obtain ⟨_, d0, d1, d2, d3, _, _, _, _⟩ := k.2.2.2.1.four
  exact ⟨⟨a0, a1, a2, a3⟩, ⟨b0, b1, b2, b3⟩, ⟨c0, c1, c2, c3⟩, d0, d1, d2, d3⟩

theorem Pair2.alloc {w : World} {g h : Nat} {r s : Rc} {w' : World} (k : Pair2 w g h r s w') (o : Obj) : Pair2 w g h r s (w'.alloc o) := k.below (below_alloc _ _)
theorem Pair2.far {w : World} {g h b i : Nat} {r s : Rc} {w' : World} (k : Pair2 w g h r s w') (h1 : g ≠ b) (h2 : h ≠ b) (h3 : w.heap.size ≤ b) (u : Value) : Pair2 w g h r s (w'.setCell ⟨b, i, none⟩ u) := ⟨k.1.other h1 _, k.2.1.other h2 _, k.2.2.setCell h3 _⟩

set_option maxHeartbeats 4000000 in
theorem RectTwos_walk (r s : Rc) (w : World) : Calls Try.prog 4 #[.agg #[.int .i64 r.a, .int .i64 r.b, .int .i64 r.c, .int .i64 r.d], .agg #[.int .i64 s.a, .int .i64 s.b, .int .i64 s.c, .int .i64 s.d]] w (Says w (.bool true)) := by
  have KS := hide (Pair2.start w r s)
  have KC := hide (fun w' (h : Pair2 w w.heap.size (w.heap.size + 1) r s w') => h.cells)
  have H1 := hide (fun w => Both_any r s w)
  have H2 := hide (fun w => Around_any r s w)
  go_enter Try.func4, Try.ntmps4
  go_wp2_with fail
  go_upto_region 2 with fail
  go_cut [5, 6] (fun s5 s6 wx => ∃ g5 g6 : Nat, s5 = .pointer (some ⟨g5, 0, none⟩) ∧ s6 = .pointer (some ⟨g6, 0, none⟩) ∧ Keep4 w g5 g6 r s (bothR r s) (aroundR r s) wx)
  case first =>
    go_region_held3 (fun w' => (w'.cell? ⟨w.heap.size, 0, none⟩ = some (.int .i64 r.a) ∧ w'.cell? ⟨w.heap.size, 1, none⟩ = some (.int .i64 r.b) ∧ w'.cell? ⟨w.heap.size, 2, none⟩ = some (.int .i64 r.c) ∧ w'.cell? ⟨w.heap.size, 3, none⟩ = some (.int .i64 r.d)) ∧ (w'.cell? ⟨w.heap.size + 1, 0, none⟩ = some (.int .i64 s.a) ∧ w'.cell? ⟨w.heap.size + 1, 1, none⟩ = some (.int .i64 s.b) ∧ w'.cell? ⟨w.heap.size + 1, 2, none⟩ = some (.int .i64 s.c) ∧ w'.cell? ⟨w.heap.size + 1, 3, none⟩ = some (.int .i64 s.d)))
      ((refine KC.out _ ?_; repeat (first | with_reducible assumption | with_reducible exact KS.out | with_reducible refine Pair2.drew ?_ | with_reducible refine Pair2.alloc ?_ _ | with_reducible refine Pair2.far ?_ (by omega) (by omega) (by omega) _)))
      (first
      | (go_at_call 24; refine (H1.out _).mono ?_; rintro e w1 ⟨rfl, hb⟩; have k1 : Pair2 w w.heap.size (w.heap.size + 1) r s w1 := Pair2.below (by repeat (first | with_reducible assumption | with_reducible exact KS.out | with_reducible refine Pair2.drew ?_ | with_reducible refine Pair2.alloc ?_ _)) hb; obtain ⟨hc1, hf1⟩ := bcell hb; have hca1 := bcell1 hb; have hfa1 := bfrozen hb; have hl1 := bless hb; (try simp only [World.size_alloc] at hl1); have hz1 := hb.size; (try simp at hz1); have HB1 := hide hb; clear hb)
      | (go_at_call 25; refine (H2.out _).mono ?_; rintro e w2 ⟨rfl, hb⟩; have k2 : Pair2 w w.heap.size (w.heap.size + 1) r s w2 := Pair2.below (by repeat (first | with_reducible assumption | with_reducible exact KS.out | with_reducible refine Pair2.drew ?_ | with_reducible refine Pair2.alloc ?_ _)) hb; obtain ⟨hc2, hf2⟩ := bcell hb; have hca2 := bcell1 hb; have hfa2 := bfrozen hb; have hl2 := bless hb; (try simp only [World.size_alloc] at hl2); have hz2 := hb.size; (try simp at hz2); have HB2 := hide hb; clear hb))
    all_goals
      go_wp2_with fail
      go_meet
      refine ⟨_, _, rfl, rfl, ?_⟩
      have q1 := k2.1
      have q2 := k2.2.1
      have q3 := k2.2.2
      clear hc1 hf1 hca1 hfa1 hl1 hc2 hf2 hca2 hfa2 hl2
      refine ⟨?_, ?_, ?_, ?_, ?_⟩
      iterate 4
        · repeat (first
            | with_reducible assumption
            | ((with_reducible refine Bx.at (lR _) _ ?_); simp; done)
            | ((with_reducible refine Bx.at [.int .i64 0, .int .i64 0, .int .i64 0, .int .i64 0] _ ?_); simp; done)
            | with_reducible refine Bx.drew ?_
            | with_reducible refine Bx.alloc ?_ _
            | with_reducible refine Bx.other4 ?_ (by omega) _ _ _ _
            | with_reducible refine Bx.set4 (x0 := .int .i64 0) (x1 := .int .i64 0) (x2 := .int .i64 0) (x3 := .int .i64 0) ?_ _ _ _ _
            | with_reducible refine Bx.below ?_ HB2.out
            | with_reducible refine Bx.below ?_ HB1.out)
      · repeat (first
          | with_reducible assumption
          | ((with_reducible refine Below.alloc ?_ ?_ _); case refine_2 => (first | omega | (simp only [World.size_alloc]; omega) | (simp; omega)))
          | with_reducible refine below_set4 ?_ (by omega) _ _ _ _)
  case rest =>
    obtain ⟨g5, g6, rfl, rfl, hk⟩ := hcut
    have KD := hide (fun w' (h : Keep4 w g5 g6 r s (bothR r s) (aroundR r s) w') => h.cells)
    clear KC KS H1 H2
    have H3 := hide (fun w => Both_any s r w)
    have H4 := hide (fun w => Around_any s r w)
    have H5 := hide (fun w => In_any r (aroundR r s) w)
    have H6 := hide (fun w => In_any s (aroundR r s) w)
    have H7 := hide (fun w => In_any (bothR r s) r w)
    rw [both_comm s r] at H3
    rw [around_comm s r] at H4
    rw [in_around_l] at H5
    rw [in_around_r] at H6
    rw [in_both] at H7
    have H8 := hide (fun w => RArea_any r w)
    have H9 := hide (fun w => RBoth_any r s w)
    have H10 := hide (fun w => RNorm_any r w)
    have H11 := hide (fun w => RAround_any r s w)
    have H12 := hide (fun w => In_any r s w)
    have H13 := hide alive6_any
    have hq1 := fun w => neq_rect (bothR r s) (bothR r s) w
    have hq2 := fun w => neq_rect (aroundR r s) (aroundR r s) w
    have hq3 := fun w => eql_rect (bothR r s) (bothR r s) w
    have hq4 := fun w => eql_rect (aroundR r s) (aroundR r s) w
    have hq5 := fun w => eql_rect (bothR r s) (nm r) w
    rw [decide_eq_true rfl] at hq1 hq2 hq3 hq4
    simp only [Bool.not_true] at hq1 hq2
    have ea := area_zero r
    have ei := in_either r s
    obtain ⟨u, hu⟩ : ∃ u, decide (bothR r s = nm r) = u := ⟨_, rfl⟩
    rw [hu] at hq5 ei
    clear hu
    rw [ei] at H12
    clear ei
    obtain ⟨g, hg⟩ : ∃ g, empB r = g := ⟨_, rfl⟩
    rw [hg] at ea H12
    clear hg
    obtain ⟨a, ha⟩ : ∃ a, areaZ r = a := ⟨_, rfl⟩
    rw [ha] at H8 ea
    clear ha
    obtain ⟨p, hp⟩ : ∃ p, bothR r s = p := ⟨_, rfl⟩
    obtain ⟨q, hq⟩ : ∃ q, aroundR r s = q := ⟨_, rfl⟩
    rw [hp] at H3 H7 H9 hq1 hq3 hq5 hk KD
    rw [hq] at H4 H5 H6 H11 hq2 hq4 hk KD
    clear hp hq
    go_wp2_with fail
    obtain ⟨⟨a0, a1, a2, a3⟩, ⟨b0, b1, b2, b3⟩, ⟨c0, c1, c2, c3⟩, d0, d1, d2, d3⟩ := KD.out _ hk
    replace a0 := cell_regrown a0
    replace a1 := cell_regrown a1
    replace a2 := cell_regrown a2
    replace a3 := cell_regrown a3
    replace b0 := cell_regrown b0
    replace b1 := cell_regrown b1
    replace b2 := cell_regrown b2
    replace b3 := cell_regrown b3
    replace c0 := cell_regrown c0
    replace c1 := cell_regrown c1
    replace c2 := cell_regrown c2
    replace c3 := cell_regrown c3
    replace d0 := cell_regrown d0
    replace d1 := cell_regrown d1
    replace d2 := cell_regrown d2
    replace d3 := cell_regrown d3
    refine wp_region_quiet_below (by kernel_rfl) (by kernel_rfl) ?_
    repeat (go_big_quiet_step ((first | (go_at_call 24; exact Calls.regrown_of (H3.out _)) | (go_at_call 25; exact Calls.regrown_of (H4.out _)) | (go_at_call_of 26 (Value.agg #[.int .i64 p.a, .int .i64 p.b, .int .i64 p.c, .int .i64 p.d]); exact Calls.regrown_of (H7.out _)) | (go_at_call_of 26 (Value.agg #[.int .i64 s.a, .int .i64 s.b, .int .i64 s.c, .int .i64 s.d]); exact Calls.regrown_of (H6.out _)) | (go_at_call_of 26 (Value.agg #[.int .i64 r.a, .int .i64 r.b, .int .i64 r.c, .int .i64 r.d]); exact Calls.regrown_of (H5.out _)))))
    refine wpQuiet_nil ?_
    rintro w3 ⟨pw3, hw3⟩
    have Kw3 : Keep4 w g5 g6 r s p q w3 := hw3 ▸ Keep4.below hk (below_regrown _ _ _)
    clear hw3 hk a0 a1 a2 a3 b0 b1 b2 b3 c0 c1 c2 c3 d0 d1 d2 d3
    clear hq1 hq2 H3 H4 H5 H6 H7
    cases g
    all_goals
      (first | simp only [Bool.false_or] at H12 | simp only [Bool.true_or] at H12)
      go_wp2_with fail
      obtain ⟨⟨a0, a1, a2, a3⟩, ⟨b0, b1, b2, b3⟩, ⟨c0, c1, c2, c3⟩, d0, d1, d2, d3⟩ := KD.out _ Kw3
      replace a0 := cell_regrown a0
      replace a1 := cell_regrown a1
      replace a2 := cell_regrown a2
      replace a3 := cell_regrown a3
      replace b0 := cell_regrown b0
      replace b1 := cell_regrown b1
      replace b2 := cell_regrown b2
      replace b3 := cell_regrown b3
      replace c0 := cell_regrown c0
      replace c1 := cell_regrown c1
      replace c2 := cell_regrown c2
      replace c3 := cell_regrown c3
      replace d0 := cell_regrown d0
      replace d1 := cell_regrown d1
      replace d2 := cell_regrown d2
      replace d3 := cell_regrown d3
      refine wp_region_quiet_below (by kernel_rfl) (by kernel_rfl) ?_
      repeat (go_big_quiet_step ((first | (go_at_call 16; exact Calls.regrown_of (H8.out _)) | (go_at_call 27; exact Calls.regrown_of (H9.out _)) | (go_at_call 12; exact Calls.regrown_of (H10.out _)))))
      refine wpQuiet_nil ?_
      rintro w4 ⟨pw4, hw4⟩
      have Kw4 : Keep4 w g5 g6 r s p q w4 := hw4 ▸ Keep4.below Kw3 (below_regrown _ _ _)
      clear hw4 Kw3 a0 a1 a2 a3 b0 b1 b2 b3 c0 c1 c2 c3 d0 d1 d2 d3
      go_wp2_with fail
      obtain ⟨⟨a0, a1, a2, a3⟩, ⟨b0, b1, b2, b3⟩, ⟨c0, c1, c2, c3⟩, d0, d1, d2, d3⟩ := KD.out _ Kw4
      replace a0 := cell_regrown a0
      replace a1 := cell_regrown a1
      replace a2 := cell_regrown a2
      replace a3 := cell_regrown a3
      replace b0 := cell_regrown b0
      replace b1 := cell_regrown b1
      replace b2 := cell_regrown b2
      replace b3 := cell_regrown b3
      replace c0 := cell_regrown c0
      replace c1 := cell_regrown c1
      replace c2 := cell_regrown c2
      replace c3 := cell_regrown c3
      replace d0 := cell_regrown d0
      replace d1 := cell_regrown d1
      replace d2 := cell_regrown d2
      replace d3 := cell_regrown d3
      refine wp_region_quiet_below (by kernel_rfl) (by kernel_rfl) ?_
      repeat (go_big_quiet_step ((first | (go_at_call 27; exact Calls.regrown_of (H9.out _)) | (go_at_call 28; exact Calls.regrown_of (H11.out _)) | (go_at_call 26; exact Calls.regrown_of (H12.out _)) | (go_at_call 23; exact Calls.regrown_of (H13.out _)))))
      refine wpQuiet_nil ?_
      rintro w5 ⟨pw5, hw5⟩
      have Kw5 : Keep4 w g5 g6 r s p q w5 := hw5 ▸ Keep4.below Kw4 (below_regrown _ _ _)
      clear hw5 Kw4 a0 a1 a2 a3 b0 b1 b2 b3 c0 c1 c2 c3 d0 d1 d2 d3
      go_wp2_with fail
      go_ret
      exact ⟨rfl, Kw5.2.2.2.2⟩

end Go.Proofs.Ytghnaocejbiidaa
