/-
Contract of the reference of layer 8: what is left of a number by twice another one. No statement is proved here.
-/
import Derived.Test.YtbogckpnajjlmaaBIdx1
namespace Go.Proofs.Ytbogckpnajjlmaa
open Go.RowKit

theorem fit_mod {i n : Int} (hn : 1 ≤ n) : i - Int.fdiv i (n + n) * (n + n) = i % (n + n) := emod_of_fdiv (by omega)

set_option maxHeartbeats 2000000 in
theorem twice_any (i n : Int) (hi : -9223372036854775808 ≤ i ∧ i ≤ 9223372036854775807) (hn : 1 ≤ n ∧ n ≤ 9223372036854775807) (w : World) : Calls Try.prog 79 #[.int .i64 i, .int .i64 n] w (MadeB w 20 (i % (n + n))) := by
  have HI := hide (fun w => Of_any i w hi.1 hi.2)
  have HN := hide (fun w => Of_any n w (by omega) hn.2)
  have HN0 := hide (show n + n ≠ 0 by omega)
  have EZ := Lib.hid (fit_mod (i := i) hn.1)
  have H0 := hide (below_alloc w (.cells #[.bool false, .slice none 0 0] 98))
  clear hi hn
  go_enter Try.func79, Try.ntmps79
  go_wp2_with fail
  refine (HI.out _).mono ?_
  rintro e w1 ⟨s1, A1, n1, c1, rfl, hB1, hb1⟩
  have Y1 := hide ((Bx.at (w := w) (g := w.heap.size) [.bool false, .slice none 0 0] 98 rfl).below hb1)
  have Z1 := hide ((Box.new w #[.bool false, .slice none 0 0] 98 (by decide)).below hb1)
  have X1 := hide (Bx.at (w := w1) (g := w1.heap.size) [.bool s1, .slice A1 n1 c1] 98 rfl)
  have V1 := hide (hB1.alloc' (.cells #[.bool s1, .slice A1 n1 c1] 98))
  have L1 := hide (H0.out.trans (hb1.mono (by simp)))
  have G1 := Y1.out.1
  have P1 := hide (Bel.refl (w1.alloc (.cells #[.bool s1, .slice A1 n1 c1] 98)))
  clear hB1 hb1
  go_wp2_with fail
  generalize hW1 : w1.alloc (.cells #[.bool s1, .slice A1 n1 c1] 98) = W1 at X1 V1 P1 ⊢
  have L1' : Below w.heap.size w W1 := hW1 ▸ L1.out.alloc (Nat.le_of_lt G1) _
  have Y1' : Bx W1 w.heap.size [.bool false, .slice none 0 0] := hW1 ▸ Y1.out.alloc _
  have Z1' : Box W1 w.heap.size := hW1 ▸ Z1.out.below (below_alloc w1 _)
  have LL := hide L1'
  have YY := hide Y1'
  have ZZ := hide Z1'
  clear hW1 L1 Y1 Z1 L1' Y1' Z1'
  refine (HN.out _).mono ?_
  rintro e w2 ⟨s2, A2, n2, c2, rfl, hB2, hb2⟩
  have k2 := hide (Bel.trans P1.out hb2)
  have B2 := hide hB2
  clear hB2 hb2
  go_wp2_with fail
  refine (HN.out _).mono ?_
  rintro e w3 ⟨s3, A3, n3, c3, rfl, hB3, hb3⟩
  have k3 := hide (Bel.trans k2.out hb3)
  have B2' := hide (B2.out.below hb3)
  have B3 := hide hB3
  clear hB3 hb3 B2 k2
  go_wp2_with fail
  refine (Add_any 5 (by omega) _ _ _ _ _ _ _ _ n n _ B2'.out B3.out).mono ?_
  rintro e w4 ⟨s4, A4, n4, c4, rfl, hB4, hb4⟩
  have k4 := hide (Bel.trans k3.out hb4)
  have X4 := hide (Bx.at (w := w4) (g := w4.heap.size) [.bool s4, .slice A4 n4 c4] 98 rfl)
  have V4 := hide (hB4.alloc' (.cells #[.bool s4, .slice A4 n4 c4] 98))
  have S4 := hide (Nat.lt_of_lt_of_le YY.out.1 k4.out.size)
  have S1 := hide (Nat.lt_of_lt_of_le X1.out.1 k4.out.size)
  have M1 := hide (Below.alloc k4.out k4.out.size (.cells #[.bool s4, .slice A4 n4 c4] 98))
  clear hB4 hb4 k3 B2' B3
  go_wp2_with fail
  generalize w4.alloc (.cells #[.bool s4, .slice A4 n4 c4] 98) = W at X4 V4 M1 ⊢
  have X1' := hide (X1.out.below M1.out)
  have V1' := hide (V1.out.below M1.out)
  have YW := hide (YY.out.below M1.out)
  have ZW := hide (ZZ.out.below M1.out)
  have LW := hide (LL.out.trans (Below.mono M1.out LL.out.size))
  have KC := hide (fun w' (h : Bel W w') => (⟨(X1'.out.below h).two.2.1, (X1'.out.below h).two.2.2.1, (X4.out.below h).two.2.1, (X4.out.below h).two.2.2.1⟩ :
    w'.cell? ⟨w1.heap.size, 0, none⟩ = some (.bool s1) ∧ w'.cell? ⟨w1.heap.size, 1, none⟩ = some (.slice A1 n1 c1) ∧ w'.cell? ⟨w4.heap.size, 0, none⟩ = some (.bool s4) ∧ w'.cell? ⟨w4.heap.size, 1, none⟩ = some (.slice A4 n4 c4)))
  have NE1 : w1.heap.size ≠ w.heap.size := by omega
  have NE4 : w4.heap.size ≠ w.heap.size := by have := S4.out; omega
  have KF := hide (fun w' u v (h : Bel W w') => (⟨cell_far NE1 (KC.out w' h).1, cell_far NE1 (KC.out w' h).2.1, cell_far NE4 (KC.out w' h).2.2.1, cell_far NE4 (KC.out w' h).2.2.2⟩ :
    ((w'.setCell ⟨w.heap.size, 0, none⟩ u).setCell ⟨w.heap.size, 1, none⟩ v).cell? ⟨w1.heap.size, 0, none⟩ = some (.bool s1) ∧ ((w'.setCell ⟨w.heap.size, 0, none⟩ u).setCell ⟨w.heap.size, 1, none⟩ v).cell? ⟨w1.heap.size, 1, none⟩ = some (.slice A1 n1 c1) ∧
    ((w'.setCell ⟨w.heap.size, 0, none⟩ u).setCell ⟨w.heap.size, 1, none⟩ v).cell? ⟨w4.heap.size, 0, none⟩ = some (.bool s4) ∧ ((w'.setCell ⟨w.heap.size, 0, none⟩ u).setCell ⟨w.heap.size, 1, none⟩ v).cell? ⟨w4.heap.size, 1, none⟩ = some (.slice A4 n4 c4)))
  have KA := hide (fun w' (h : Bel W w') => V1'.out.below h)
  have KB := hide (fun w' (h : Bel W w') => V4.out.below h)
  have KY := hide (fun w' (h : Bel W w') => (YW.out.below h).two)
  clear X4 X1' V4 V1' X1 V1 P1 k4 NE1 NE4 G1 YW LL YY ZZ S4 S1 M1
  go_region_held3 (fun w' => w'.cell? ⟨w1.heap.size, 0, none⟩ = some (.bool s1) ∧ w'.cell? ⟨w1.heap.size, 1, none⟩ = some (.slice A1 n1 c1) ∧ w'.cell? ⟨w4.heap.size, 0, none⟩ = some (.bool s4) ∧ w'.cell? ⟨w4.heap.size, 1, none⟩ = some (.slice A4 n4 c4))
    (((first | (with_reducible refine KF.out _ _ _ ?_) | (with_reducible refine KC.out _ ?_)); repeat (first | assumption | exact Bel.refl _ | refine Bel.drew ?_)))
    (first
      | (go_at_call 101; refine (Floor_any 6 (by omega) _ _ _ _ _ _ _ _ i (n + n) _ ((KA.out _ (by repeat (first | assumption | exact Bel.refl _ | refine Bel.drew ?_))).more (by omega)) (KB.out _ (by repeat (first | assumption | exact Bel.refl _ | refine Bel.drew ?_))) HN0.out).mono ?_; rintro e w5 ⟨s5, A5, n5, c5, rfl, hB, hb⟩; have k5 : Bel W w5 := Bel.trans (by repeat (first | assumption | exact Bel.refl _ | refine Bel.drew ?_)) hb; have B5 := hide hB; clear hB hb)
      | (go_at_call 92; refine (Mul_any 12 6 (by omega) (by omega) _ _ _ _ _ _ _ _ (Int.fdiv i (n + n)) (n + n) _ B5.out (KB.out _ (by repeat (first | assumption | exact Bel.refl _ | refine Bel.drew ?_)))).mono ?_; rintro e w6 ⟨s6, A6, n6, c6, rfl, hB, hb⟩; have k6 : Bel W w6 := Bel.trans (by repeat (first | assumption | exact Bel.refl _ | refine Bel.drew ?_)) hb; have B6 := hide hB; clear hB hb)
      | (go_at_call 83; refine (Sub_any 19 (by omega) _ _ _ _ _ _ _ _ i (Int.fdiv i (n + n) * (n + n)) _ ((KA.out _ (by repeat (first | assumption | exact Bel.refl _ | refine Bel.drew ?_))).more (by omega)) B6.out).mono ?_; rw [EZ.out]; rintro e w7 ⟨s7, A7, n7, c7, rfl, hB, hb⟩; have k7 : Bel W w7 := Bel.trans (by repeat (first | assumption | exact Bel.refl _ | refine Bel.drew ?_)) hb; have B7 := hide hB; obtain ⟨_, q0, q1, q2, q3⟩ := KY.out _ k7; clear hB hb))
  go_wp2_with fail
  refine bodyPost_ret (v := .agg #[.bool s7, .slice A7 n7 c7]) (by simp [results, Try.results79, go_sem, q0, q1]) rfl ?_
  exact (MadeB.fin (LW.out.trans (Below.mono k7 LW.out.size)) (Nat.le_refl _) (ZW.out.below k7) B7.out _ _).more (by omega)

end Go.Proofs.Ytbogckpnajjlmaa
