/-
The law DiffThird: its walk. No statement is proved here.
-/
import Derived.Test.YtbpnnjnkjbpmaaaDiff3
import Derived.Test.YtbpnnjnkjbpmaaaDiff4
namespace Go.Proofs.Ytbpnnjnkjbpmaaa
open Go.RowKit

/-- three boxes of images -/
def Im3 (w : World) (x0 y0 c0 x1 y1 c1 x2 y2 c2 : Int) (A0 A1 A2 : Option Addr) (n0 p0 n1 p1 n2 p2 : Nat) (w' : World) : Prop := Bx w' w.heap.size [.int .i64 x0, .int .i64 y0, .int .i64 c0, .slice A0 n0 p0] ∧ Bx w' (w.heap.size + 1) [.int .i64 x1, .int .i64 y1, .int .i64 c1, .slice A1 n1 p1] ∧ Bx w' (w.heap.size + 1 + 1) [.int .i64 x2, .int .i64 y2, .int .i64 c2, .slice A2 n2 p2] ∧ Below w.heap.size w w'
section
variable {w : World} {x0 y0 c0 x1 y1 c1 x2 y2 c2 : Int} {A0 A1 A2 : Option Addr} {n0 p0 n1 p1 n2 p2 : Nat} {w1 w2 : World}
theorem Im3.below (h : Im3 w x0 y0 c0 x1 y1 c1 x2 y2 c2 A0 A1 A2 n0 p0 n1 p1 n2 p2 w1) (hb : Below w1.heap.size w1 w2) : Im3 w x0 y0 c0 x1 y1 c1 x2 y2 c2 A0 A1 A2 n0 p0 n1 p1 n2 p2 w2 :=
  ⟨h.1.below hb, h.2.1.below hb, h.2.2.1.below hb, h.2.2.2.trans (hb.mono h.2.2.2.size)⟩
end
theorem Im3.start (w : World) (x0 y0 c0 x1 y1 c1 x2 y2 c2 : Int) (A0 A1 A2 : Option Addr) (n0 p0 n1 p1 n2 p2 : Nat) : Im3 w x0 y0 c0 x1 y1 c1 x2 y2 c2 A0 A1 A2 n0 p0 n1 p1 n2 p2 (((w.alloc (.cells #[.int .i64 x0, .int .i64 y0, .int .i64 c0, .slice A0 n0 p0] 24)).alloc (.cells #[.int .i64 x1, .int .i64 y1, .int .i64 c1, .slice A1 n1 p1] 24)).alloc (.cells #[.int .i64 x2, .int .i64 y2, .int .i64 c2, .slice A2 n2 p2] 24)) :=
  ⟨((Bx.at [.int .i64 x0, .int .i64 y0, .int .i64 c0, .slice A0 n0 p0] _ rfl).alloc _).alloc _, (Bx.at [.int .i64 x1, .int .i64 y1, .int .i64 c1, .slice A1 n1 p1] _ (by simp)).alloc _, Bx.at [.int .i64 x2, .int .i64 y2, .int .i64 c2, .slice A2 n2 p2] _ (by simp), below_alloc3 w _ _ _⟩
theorem neq_diff (r s : Df) (w : World) : (binOp .neq 28 (.agg #[.int .i64 r.cnt, .int .i64 r.most, .int .u64 r.sum, .int .u64 r.sq, .int .i64 r.x, .int .i64 r.y, .int .i64 r.k]) (.agg #[.int .i64 s.cnt, .int .i64 s.most, .int .u64 s.sum, .int .u64 s.sq, .int .i64 s.x, .int .i64 s.y, .int .i64 s.k])).run Try.prog w = Result.ok (.bool (!decide (r = s))) w := by
  cases r; cases s
  simp [go_sem]
  repeat (first | rfl | (split; simp_all) | simp_all)

set_option maxHeartbeats 2000000 in
/-- what asks nothing -/
theorem Third_out (x0 y0 c0 x1 y1 c1 x2 y2 c2 : Int) (A0 A1 A2 : Option Addr) (n0 p0 n1 p1 n2 p2 : Nat) (w : World) (h : decide ((n0 : Int) ≤ 5000) = false ∨ dchkZ x0 y0 c0 n0 x1 y1 c1 n1 ≠ 0 ∨ dchkZ x0 y0 c0 n0 x2 y2 c2 n2 ≠ 0) : Calls Try.prog 5 #[.agg #[.int .i64 x0, .int .i64 y0, .int .i64 c0, .slice A0 n0 p0], .agg #[.int .i64 x1, .int .i64 y1, .int .i64 c1, .slice A1 n1 p1], .agg #[.int .i64 x2, .int .i64 y2, .int .i64 c2, .slice A2 n2 p2]] w (Says w (.bool true)) := by
  have KS := Im3.start w x0 y0 c0 x1 y1 c1 x2 y2 c2 A0 A1 A2 n0 p0 n1 p1 n2 p2
  have F1 := hide (fun w => Few_any x0 y0 c0 A0 n0 p0 5000 w)
  have C1 := hide (fun w => RDCheck_any x0 y0 c0 x1 y1 c1 A0 A1 n0 p0 n1 p1 w)
  have C2 := hide (fun w => RDCheck_any x0 y0 c0 x2 y2 c2 A0 A2 n0 p0 n2 p2 w)
  obtain ⟨g, hg⟩ : ∃ g, decide ((n0 : Int) ≤ 5000) = g := ⟨_, rfl⟩
  obtain ⟨f1, hf1⟩ : ∃ f, dchkZ x0 y0 c0 n0 x1 y1 c1 n1 = f := ⟨_, rfl⟩
  obtain ⟨f2, hf2⟩ : ∃ f, dchkZ x0 y0 c0 n0 x2 y2 c2 n2 = f := ⟨_, rfl⟩
  rw [hg] at F1 h
  rw [hf1] at C1 h
  rw [hf2] at C2 h
  clear hg hf1 hf2
  obtain ⟨_, a0, a1, a2, a3, _, _, _, _⟩ := KS.1.four
  obtain ⟨_, b0, b1, b2, b3, _, _, _, _⟩ := KS.2.1.four
  obtain ⟨_, d0, d1, d2, d3, _, _, _, _⟩ := KS.2.2.1.four
  have HKS := hide KS
  clear KS
  cases g
  · clear h
    go_enter Try.func5, Try.ntmps5
    go_wp2_with fail
    refine (F1.out _).mono ?_
    rintro e w1 ⟨rfl, hb⟩
    have K1 := hide (HKS.out.below hb)
    clear hb a0 a1 a2 a3 b0 b1 b2 b3 d0 d1 d2 d3
    go_wp2_with fail
    go_ret
    exact ⟨rfl, K1.out.2.2.2⟩
  · by_cases e1 : f1 = 0
    · have e2 : f2 ≠ 0 := by rcases h with h | h | h; (cases h); (exact absurd e1 h); (exact h)
      have k2 : (f2 != 0) = true := by simpa using e2
      subst e1
      clear h e2
      go_enter Try.func5, Try.ntmps5
      go_wp2_with fail
      refine (F1.out _).mono ?_
      rintro e w1 ⟨rfl, hb⟩
      have K1 := hide (HKS.out.below hb)
      clear hb a0 a1 a2 a3 b0 b1 b2 b3 d0 d1 d2 d3
      obtain ⟨_, a0, a1, a2, a3, _, _, _, _⟩ := K1.out.1.four
      obtain ⟨_, b0, b1, b2, b3, _, _, _, _⟩ := K1.out.2.1.four
      go_wp2_with fail
      refine (C1.out _).mono ?_
      rintro e w2 ⟨rfl, hb⟩
      have K2 := hide (K1.out.below hb)
      clear hb a0 a1 a2 a3 b0 b1 b2 b3
      obtain ⟨_, a0, a1, a2, a3, _, _, _, _⟩ := K2.out.1.four
      obtain ⟨_, d0, d1, d2, d3, _, _, _, _⟩ := K2.out.2.2.1.four
      go_wp2_with fail
      refine (C2.out _).mono ?_
      rintro e w3 ⟨rfl, hb⟩
      have K3 := hide (K2.out.below hb)
      clear hb a0 a1 a2 a3 d0 d1 d2 d3
      go_wp2_with fail
      go_ret
      exact ⟨rfl, K3.out.2.2.2⟩
    · have k1 : (f1 != 0) = true := by simpa using e1
      clear h e1
      go_enter Try.func5, Try.ntmps5
      go_wp2_with fail
      refine (F1.out _).mono ?_
      rintro e w1 ⟨rfl, hb⟩
      have K1 := hide (HKS.out.below hb)
      clear hb a0 a1 a2 a3 b0 b1 b2 b3 d0 d1 d2 d3
      obtain ⟨_, a0, a1, a2, a3, _, _, _, _⟩ := K1.out.1.four
      obtain ⟨_, b0, b1, b2, b3, _, _, _, _⟩ := K1.out.2.1.four
      go_wp2_with fail
      refine (C1.out _).mono ?_
      rintro e w2 ⟨rfl, hb⟩
      have K2 := hide (K1.out.below hb)
      clear hb a0 a1 a2 a3 b0 b1 b2 b3
      go_wp2_with fail
      go_ret
      exact ⟨rfl, K2.out.2.2.2⟩

end Go.Proofs.Ytbpnnjnkjbpmaaa
