/-
The law RectHas: its walk. No statement is proved here.
-/
import Derived.Test.YtghnaocejbiidaaAlive6
import Derived.Lib.QuietBelow
namespace Go.Proofs.Ytghnaocejbiidaa
open Go.RowKit

/-- three boxes: two rectangles and a place -/
def Keep3 (w : World) (r s : Rc) (x y : Int) (w' : World) : Prop := Bx w' w.heap.size (lR r) ∧ Bx w' (w.heap.size + 1) (lR s) ∧ Bx w' (w.heap.size + 1 + 1) [.int .i64 x, .int .i64 y] ∧ Below w.heap.size w w'
theorem Keep3.below {w : World} {r s : Rc} {x y : Int} {w1 w2 : World} (h : Keep3 w r s x y w1) (hb : Below w1.heap.size w1 w2) : Keep3 w r s x y w2 :=
  ⟨h.1.below hb, h.2.1.below hb, h.2.2.1.below hb, h.2.2.2.trans (hb.mono h.2.2.2.size)⟩
theorem Keep3.start (w : World) (r s : Rc) (x y : Int) : Keep3 w r s x y (((w.alloc (.cells #[.int .i64 r.a, .int .i64 r.b, .int .i64 r.c, .int .i64 r.d] 23)).alloc (.cells #[.int .i64 s.a, .int .i64 s.b, .int .i64 s.c, .int .i64 s.d] 23)).alloc (.cells #[.int .i64 x, .int .i64 y] 32)) :=
  ⟨((Bx.at (lR r) _ rfl).alloc _).alloc _, (Bx.at (lR s) _ (by simp)).alloc _, Bx.at [.int .i64 x, .int .i64 y] _ (by simp), below_alloc3 w _ _ _⟩
theorem Keep3.cells {w : World} {r s : Rc} {x y : Int} {w' : World} (k : Keep3 w r s x y w') : (w'.cell? ⟨w.heap.size, 0, none⟩ = some (.int .i64 r.a) ∧ w'.cell? ⟨w.heap.size, 1, none⟩ = some (.int .i64 r.b) ∧ w'.cell? ⟨w.heap.size, 2, none⟩ = some (.int .i64 r.c) ∧ w'.cell? ⟨w.heap.size, 3, none⟩ = some (.int .i64 r.d)) ∧ (w'.cell? ⟨w.heap.size + 1, 0, none⟩ = some (.int .i64 s.a) ∧ w'.cell? ⟨w.heap.size + 1, 1, none⟩ = some (.int .i64 s.b) ∧ w'.cell? ⟨w.heap.size + 1, 2, none⟩ = some (.int .i64 s.c) ∧ w'.cell? ⟨w.heap.size + 1, 3, none⟩ = some (.int .i64 s.d)) ∧ w'.cell? ⟨w.heap.size + 1 + 1, 0, none⟩ = some (.int .i64 x) ∧ w'.cell? ⟨w.heap.size + 1 + 1, 1, none⟩ = some (.int .i64 y) := by
  obtain ⟨_, a0, a1, a2, a3, _, _, _, _⟩ := k.1.four
  obtain ⟨_, b0, b1, b2, b3, _, _, _, _⟩ := k.2.1.four
  obtain ⟨_, c0, c1, _, _⟩ := k.2.2.1.two
  exact ⟨⟨a0, a1, a2, a3⟩, ⟨b0, b1, b2, b3⟩, c0, c1⟩

set_option maxHeartbeats 2000000 in
theorem RectHas_walk (r s : Rc) (x y : Int) (w : World) : Calls Try.prog 5 #[.agg #[.int .i64 r.a, .int .i64 r.b, .int .i64 r.c, .int .i64 r.d], .agg #[.int .i64 s.a, .int .i64 s.b, .int .i64 s.c, .int .i64 s.d], .agg #[.int .i64 x, .int .i64 y]] w (Says w (.bool true)) := by
  have KS := Keep3.start w r s x y
  have KD := hide (fun w' (h : Keep3 w r s x y w') => h.cells)
  have H1 := hide (fun w => Has_any r x y w)
  have H2 := hide (fun w => Has_any s x y w)
  have H3 := hide (fun w => Both_any r s w)
  have H4 := hide (fun w => Has_any (bothR r s) x y w)
  have H5 := hide (fun w => Around_any r s w)
  have H6 := hide (fun w => Has_any (aroundR r s) x y w)
  have H7 := hide alive6_any
  rw [has_both] at H4
  have ha := Lib.hid (has_around (r := r) (s := s) (x := x) (y := y))
  obtain ⟨p, hp⟩ : ∃ p, bothR r s = p := ⟨_, rfl⟩
  obtain ⟨q, hq⟩ : ∃ q, aroundR r s = q := ⟨_, rfl⟩
  rw [hp] at H3 H4
  rw [hq] at H5 H6 ha
  clear hp hq
  obtain ⟨g, hg⟩ : ∃ g, hasB r x y = g := ⟨_, rfl⟩
  obtain ⟨h, hh⟩ : ∃ h, hasB s x y = h := ⟨_, rfl⟩
  rw [hg] at H1 H4 ha
  rw [hh] at H2 H4 ha
  clear hg hh
  have hb : (!g && !h || hasB q x y) = true := by
    cases g <;> cases h
    · rfl
    · rw [ha.out (.inr rfl)]; rfl
    · rw [ha.out (.inl rfl)]; rfl
    · rw [ha.out (.inl rfl)]; rfl
  obtain ⟨k, hk⟩ : ∃ k, hasB q x y = k := ⟨_, rfl⟩
  rw [hk] at H6 hb
  clear ha hk
  cases g
  all_goals cases h
  all_goals cases k
  all_goals (first | (exact absurd hb (by decide)) | skip)
  all_goals
    clear hb
    go_enter Try.func5, Try.ntmps5
    go_wp2_with fail
    obtain ⟨⟨a0, a1, a2, a3⟩, ⟨b0, b1, b2, b3⟩, c0, c1⟩ := KD.out _ KS
    replace a0 := cell_regrown a0
    replace a1 := cell_regrown a1
    replace a2 := cell_regrown a2
    replace a3 := cell_regrown a3
    replace b0 := cell_regrown b0
    replace b1 := cell_regrown b1
    replace b2 := cell_regrown b2
    replace b3 := cell_regrown b3
    replace c0 := cell_regrown c0
    replace c1 := cell_regrown c1
    refine wp_region_quiet_below (by kernel_rfl) (by kernel_rfl) ?_
    repeat (go_big_quiet_step ((first | (go_at_call_of 18 (Value.agg #[.int .i64 s.a, .int .i64 s.b, .int .i64 s.c, .int .i64 s.d]); exact Calls.regrown_of (H2.out _)) | (go_at_call_of 18 (Value.agg #[.int .i64 r.a, .int .i64 r.b, .int .i64 r.c, .int .i64 r.d]); exact Calls.regrown_of (H1.out _)))))
    refine wpQuiet_nil ?_
    rintro w2 ⟨pw2, hw2⟩
    have Kw2 : Keep3 w r s x y w2 := hw2 ▸ Keep3.below KS (below_regrown _ _ _)
    clear hw2 KS a0 a1 a2 a3 b0 b1 b2 b3 c0 c1
    go_wp2_with fail
    obtain ⟨⟨a0, a1, a2, a3⟩, ⟨b0, b1, b2, b3⟩, c0, c1⟩ := KD.out _ Kw2
    replace a0 := cell_regrown a0
    replace a1 := cell_regrown a1
    replace a2 := cell_regrown a2
    replace a3 := cell_regrown a3
    replace b0 := cell_regrown b0
    replace b1 := cell_regrown b1
    replace b2 := cell_regrown b2
    replace b3 := cell_regrown b3
    replace c0 := cell_regrown c0
    replace c1 := cell_regrown c1
    refine wp_region_quiet_below (by kernel_rfl) (by kernel_rfl) ?_
    repeat (go_big_quiet_step ((first | (go_at_call 24; exact Calls.regrown_of (H3.out _)) | (go_at_call_of 18 (Value.agg #[.int .i64 p.a, .int .i64 p.b, .int .i64 p.c, .int .i64 p.d]); exact Calls.regrown_of (H4.out _)))))
    refine wpQuiet_nil ?_
    rintro w3 ⟨pw3, hw3⟩
    have Kw3 : Keep3 w r s x y w3 := hw3 ▸ Keep3.below Kw2 (below_regrown _ _ _)
    clear hw3 Kw2 a0 a1 a2 a3 b0 b1 b2 b3 c0 c1
    go_wp2_with fail
    obtain ⟨⟨a0, a1, a2, a3⟩, ⟨b0, b1, b2, b3⟩, c0, c1⟩ := KD.out _ Kw3
    replace a0 := cell_regrown a0
    replace a1 := cell_regrown a1
    replace a2 := cell_regrown a2
    replace a3 := cell_regrown a3
    replace b0 := cell_regrown b0
    replace b1 := cell_regrown b1
    replace b2 := cell_regrown b2
    replace b3 := cell_regrown b3
    replace c0 := cell_regrown c0
    replace c1 := cell_regrown c1
    refine wp_region_quiet_below (by kernel_rfl) (by kernel_rfl) ?_
    repeat (go_big_quiet_step ((first | (go_at_call 25; exact Calls.regrown_of (H5.out _)) | (go_at_call_of 18 (Value.agg #[.int .i64 q.a, .int .i64 q.b, .int .i64 q.c, .int .i64 q.d]); exact Calls.regrown_of (H6.out _)) | (go_at_call 23; exact Calls.regrown_of (H7.out _)))))
    refine wpQuiet_nil ?_
    rintro w4 ⟨pw4, hw4⟩
    have Kw4 : Keep3 w r s x y w4 := hw4 ▸ Keep3.below Kw3 (below_regrown _ _ _)
    clear hw4 Kw3 a0 a1 a2 a3 b0 b1 b2 b3 c0 c1
    go_wp2_with fail
    go_ret
    exact ⟨rfl, Kw4.2.2.2⟩

end Go.Proofs.Ytghnaocejbiidaa
