/-
The law DiffThird: its walk, where it asks something. No statement is proved here.
-/
import Derived.Test.YtbpnnjnkjbpmaaaThird1
import Derived.Outline
namespace Go.Proofs.Ytbpnnjnkjbpmaaa
open Go.RowKit

set_option maxHeartbeats 4000000 in
theorem Third_in (x y c : Int) (A0 A1 A2 : Option Addr) (n p0 p1 p2 : Nat) (xs ys zs : List Int) (w : World) (h0 : BY w A0 n p0 xs) (h1 : BY w A1 n p1 ys) (h2 : BY w A2 n p2 zs) (hn : n ≤ 5000) (hd : dchkZ x y c n x y c n = 0) :
    Calls Try.prog 5 #[.agg #[.int .i64 x, .int .i64 y, .int .i64 c, .slice A0 n p0], .agg #[.int .i64 x, .int .i64 y, .int .i64 c, .slice A1 n p1], .agg #[.int .i64 x, .int .i64 y, .int .i64 c, .slice A2 n p2]] w (Says w (.bool true)) := by
  obtain ⟨hf, _⟩ := dchk_ok hd
  obtain ⟨fc, fx, _⟩ := fits_zero hf
  have KS := Im3.start w x y c x y c x y c A0 A1 A2 n p0 n p1 n p2
  have F1 := hide (fun w => Few_any x y c A0 n p0 5000 w)
  rw [show decide ((n : Int) ≤ 5000) = true by simp; omega] at F1
  have C1 := hide (fun w => RDCheck_any x y c x y c A0 A1 n p0 n p1 w)
  have C2 := hide (fun w => RDCheck_any x y c x y c A0 A2 n p0 n p2 w)
  rw [hd] at C1 C2
  have O1 := hide (fun w' (hb : Below w.heap.size w w') => Of_ok x y c A0 A0 n p0 p0 xs xs w' (h0.below hb) (h0.below hb) hd (by omega) fx (by omega))
  have O2 := hide (fun w' (hb : Below w.heap.size w w') => Of_ok x y c A0 A1 n p0 p1 xs ys w' (h0.below hb) (h1.below hb) hd (by omega) fx (by omega))
  have O3 := hide (fun w' (hb : Below w.heap.size w w') => Of_ok x y c A1 A0 n p1 p0 ys xs w' (h1.below hb) (h0.below hb) hd (by omega) fx (by omega))
  have O4 := hide (fun w' (hb : Below w.heap.size w w') => Of_ok x y c A0 A2 n p0 p2 xs zs w' (h0.below hb) (h2.below hb) hd (by omega) fx (by omega))
  have O5 := hide (fun w' (hb : Below w.heap.size w w') => Of_ok x y c A2 A1 n p2 p1 zs ys w' (h2.below hb) (h1.below hb) hd (by omega) fx (by omega))
  have I2 := dfold_in x c h0.2.2.2.1 h1.2.2.2.1 n
  have I4 := dfold_in x c h0.2.2.2.1 h2.2.2.2.1 n
  have I5 := dfold_in x c h2.2.2.2.1 h1.2.2.2.1 n
  have T := third x c xs ys zs n
  rw [dfold_self] at O1
  rw [dfold_comm x c ys xs n] at O3
  obtain ⟨ab, hab⟩ : ∃ d, dfold x c xs ys n = d := ⟨_, rfl⟩
  obtain ⟨ac, hac⟩ : ∃ d, dfold x c xs zs n = d := ⟨_, rfl⟩
  obtain ⟨cb, hcb⟩ : ∃ d, dfold x c zs ys n = d := ⟨_, rfl⟩
  rw [hab] at O2 O3 I2 T
  rw [hac] at O4 I4 T
  rw [hcb] at O5 I5 T
  have hq1 := fun w => neq_diff ⟨0, 0, 0, 0, 0, 0, 0⟩ ⟨0, 0, 0, 0, 0, 0, 0⟩ w
  have hq2 := fun w => neq_diff ab ab w
  rw [decide_eq_true rfl] at hq1 hq2
  simp only [Bool.not_true] at hq1 hq2
  obtain ⟨t1, t2, t3, t4, ⟨t5, t6, t7⟩, t8, t9⟩ := T
  obtain ⟨⟨_, i1⟩, ⟨_, i2⟩, ⟨_, i3⟩, _⟩ := I2
  obtain ⟨⟨j5, j1⟩, ⟨_, j2⟩, ⟨j6, j3⟩, _⟩ := I4
  obtain ⟨⟨k5, k1⟩, ⟨_, k2⟩, ⟨k6, k3⟩, _⟩ := I5
  have tz : (ab.cnt == 0) = (ab.sum == 0) := by rw [Bool.eq_iff_iff, beq_iff_eq, beq_iff_eq]; exact t4
  have AL := hide alive13_any
  obtain ⟨_, a0, a1, a2, a3, _, _, _, _⟩ := KS.1.four
  obtain ⟨_, b0, b1, b2, b3, _, _, _, _⟩ := KS.2.1.four
  obtain ⟨_, d0, d1, d2, d3, _, _, _, _⟩ := KS.2.2.1.four
  have HKS := hide KS
  clear KS h0 h1 h2 hd hf fc fx hab hac hcb t4
  go_enter Try.func5, Try.ntmps5
  go_wp2_with fail
  refine (F1.out _).mono ?_
  rintro e w1 ⟨rfl, hb⟩
  have K1 := hide (HKS.out.below hb)
  clear hb a0 a1 a2 a3 b0 b1 b2 b3 d0 d1 d2 d3
  obtain ⟨_, a0, a1, a2, a3, _, _, _, _⟩ := K1.out.1.four
  obtain ⟨_, b0, b1, b2, b3, _, _, _, _⟩ := K1.out.2.1.four
  go_wp2_with fail
  refine (C1.out _).mono ?_
  rintro e w2 ⟨rfl, hb⟩
  have K2 := hide (K1.out.below hb)
  clear hb a0 a1 a2 a3 b0 b1 b2 b3
  obtain ⟨_, a0, a1, a2, a3, _, _, _, _⟩ := K2.out.1.four
  obtain ⟨_, d0, d1, d2, d3, _, _, _, _⟩ := K2.out.2.2.1.four
  go_wp2_with fail
  refine (C2.out _).mono ?_
  rintro e w3 ⟨rfl, hb⟩
  have K3 := hide (K2.out.below hb)
  clear hb a0 a1 a2 a3 d0 d1 d2 d3
  obtain ⟨q09, q00, q01, q02, q03, _, _, _, _⟩ := K3.out.1.four
  go_wp2_with fail
  refine (O1.out _ K3.out.2.2.2).mono ?_
  rintro e v1 ⟨rfl, hb⟩
  have KK1 := hide (K3.out.below hb)
  clear hb q09 q00 q01 q02 q03 K3
  obtain ⟨q09, q00, q01, q02, q03, _, _, _, _⟩ := KK1.out.1.four
  obtain ⟨q19, q10, q11, q12, q13, _, _, _, _⟩ := KK1.out.2.1.four
  go_wp2_with fail
  refine (O2.out _ (KK1.out.2.2.2.trans (below_alloc' KK1.out.2.2.2.size (.cells #[.int .i64 0, .int .i64 0, .int .u64 0, .int .u64 0, .int .i64 0, .int .i64 0, .int .i64 0] 28)))).mono ?_
  rintro e v2 ⟨rfl, hb⟩
  have KK2 := hide ((KK1.out.below (below_alloc v1 (.cells #[.int .i64 0, .int .i64 0, .int .u64 0, .int .u64 0, .int .i64 0, .int .i64 0, .int .i64 0] 28))).below hb)
  have X1 := hide ((Bx.at (w := v1) (g := v1.heap.size) (lD ⟨0, 0, 0, 0, 0, 0, 0⟩) 28 rfl).below hb)
  clear hb q09 q00 q01 q02 q03 q19 q10 q11 q12 q13 KK1
  obtain ⟨q09, q00, q01, q02, q03, _, _, _, _⟩ := KK2.out.1.four
  obtain ⟨q19, q10, q11, q12, q13, _, _, _, _⟩ := KK2.out.2.1.four
  go_wp2_with fail
  refine (O3.out _ (KK2.out.2.2.2.trans (below_alloc' KK2.out.2.2.2.size (.cells #[.int .i64 ab.cnt, .int .i64 ab.most, .int .u64 ab.sum, .int .u64 ab.sq, .int .i64 ab.x, .int .i64 ab.y, .int .i64 ab.k] 28)))).mono ?_
  rintro e v3 ⟨rfl, hb⟩
  have KK3 := hide ((KK2.out.below (below_alloc v2 (.cells #[.int .i64 ab.cnt, .int .i64 ab.most, .int .u64 ab.sum, .int .u64 ab.sq, .int .i64 ab.x, .int .i64 ab.y, .int .i64 ab.k] 28))).below hb)
  have X1' := hide ((X1.out.below (below_alloc v2 (.cells #[.int .i64 ab.cnt, .int .i64 ab.most, .int .u64 ab.sum, .int .u64 ab.sq, .int .i64 ab.x, .int .i64 ab.y, .int .i64 ab.k] 28))).below hb)
  clear X1
  have X1 := X1'
  clear X1'
  have X2 := hide ((Bx.at (w := v2) (g := v2.heap.size) (lD ab) 28 rfl).below hb)
  clear hb q09 q00 q01 q02 q03 q19 q10 q11 q12 q13 KK2
  obtain ⟨q09, q00, q01, q02, q03, _, _, _, _⟩ := KK3.out.1.four
  obtain ⟨q29, q20, q21, q22, q23, _, _, _, _⟩ := KK3.out.2.2.1.four
  go_wp2_with fail
  refine (O4.out _ (KK3.out.2.2.2.trans (below_alloc' KK3.out.2.2.2.size (.cells #[.int .i64 ab.cnt, .int .i64 ab.most, .int .u64 ab.sum, .int .u64 ab.sq, .int .i64 ab.x, .int .i64 ab.y, .int .i64 ab.k] 28)))).mono ?_
  rintro e v4 ⟨rfl, hb⟩
  have KK4 := hide ((KK3.out.below (below_alloc v3 (.cells #[.int .i64 ab.cnt, .int .i64 ab.most, .int .u64 ab.sum, .int .u64 ab.sq, .int .i64 ab.x, .int .i64 ab.y, .int .i64 ab.k] 28))).below hb)
  have X1' := hide ((X1.out.below (below_alloc v3 (.cells #[.int .i64 ab.cnt, .int .i64 ab.most, .int .u64 ab.sum, .int .u64 ab.sq, .int .i64 ab.x, .int .i64 ab.y, .int .i64 ab.k] 28))).below hb)
  clear X1
  have X1 := X1'
  clear X1'
  have X2' := hide ((X2.out.below (below_alloc v3 (.cells #[.int .i64 ab.cnt, .int .i64 ab.most, .int .u64 ab.sum, .int .u64 ab.sq, .int .i64 ab.x, .int .i64 ab.y, .int .i64 ab.k] 28))).below hb)
  clear X2
  have X2 := X2'
  clear X2'
  have X3 := hide ((Bx.at (w := v3) (g := v3.heap.size) (lD ab) 28 rfl).below hb)
  clear hb q09 q00 q01 q02 q03 q29 q20 q21 q22 q23 KK3
  obtain ⟨q19, q10, q11, q12, q13, _, _, _, _⟩ := KK4.out.2.1.four
  obtain ⟨q29, q20, q21, q22, q23, _, _, _, _⟩ := KK4.out.2.2.1.four
  go_wp2_with fail
  refine (O5.out _ (KK4.out.2.2.2.trans (below_alloc' KK4.out.2.2.2.size (.cells #[.int .i64 ac.cnt, .int .i64 ac.most, .int .u64 ac.sum, .int .u64 ac.sq, .int .i64 ac.x, .int .i64 ac.y, .int .i64 ac.k] 28)))).mono ?_
  rintro e v5 ⟨rfl, hb⟩
  have KK5 := hide ((KK4.out.below (below_alloc v4 (.cells #[.int .i64 ac.cnt, .int .i64 ac.most, .int .u64 ac.sum, .int .u64 ac.sq, .int .i64 ac.x, .int .i64 ac.y, .int .i64 ac.k] 28))).below hb)
  have X1' := hide ((X1.out.below (below_alloc v4 (.cells #[.int .i64 ac.cnt, .int .i64 ac.most, .int .u64 ac.sum, .int .u64 ac.sq, .int .i64 ac.x, .int .i64 ac.y, .int .i64 ac.k] 28))).below hb)
  clear X1
  have X1 := X1'
  clear X1'
  have X2' := hide ((X2.out.below (below_alloc v4 (.cells #[.int .i64 ac.cnt, .int .i64 ac.most, .int .u64 ac.sum, .int .u64 ac.sq, .int .i64 ac.x, .int .i64 ac.y, .int .i64 ac.k] 28))).below hb)
  clear X2
  have X2 := X2'
  clear X2'
  have X3' := hide ((X3.out.below (below_alloc v4 (.cells #[.int .i64 ac.cnt, .int .i64 ac.most, .int .u64 ac.sum, .int .u64 ac.sq, .int .i64 ac.x, .int .i64 ac.y, .int .i64 ac.k] 28))).below hb)
  clear X3
  have X3 := X3'
  clear X3'
  have X4 := hide ((Bx.at (w := v4) (g := v4.heap.size) (lD ac) 28 rfl).below hb)
  clear hb q19 q10 q11 q12 q13 q29 q20 q21 q22 q23 KK4
  obtain ⟨g1, ⟨r10, r11, r12, r13, r14, r15, r16⟩, _⟩ := X1.out.seven
  obtain ⟨g2, ⟨r20, r21, r22, r23, r24, r25, r26⟩, _⟩ := X2.out.seven
  obtain ⟨g3, ⟨r30, r31, r32, r33, r34, r35, r36⟩, _⟩ := X3.out.seven
  obtain ⟨g4, ⟨r40, r41, r42, r43, r44, r45, r46⟩, _⟩ := X4.out.seven
  have HF := hide (KK5.out.2.2.2.trans (below_alloc' KK5.out.2.2.2.size (.cells #[.int .i64 cb.cnt, .int .i64 cb.most, .int .u64 cb.sum, .int .u64 cb.sq, .int .i64 cb.x, .int .i64 cb.y, .int .i64 cb.k] 28)))
  clear KK5 X1 X2 X3 X4
  go_wp2_with fail
  refine (AL.out _).mono ?_
  rintro e z1 ⟨rfl, hb⟩
  have HG := hide (HF.out.trans (hb.mono HF.out.size))
  clear hb
  go_wp2_with fail
  go_ret
  exact ⟨rfl, HG.out⟩

end Go.Proofs.Ytbpnnjnkjbpmaaa
