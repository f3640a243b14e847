/-
Contracts of the second reference: Left. No statement is proved here.
-/
import Derived.Test.YtehkccogbgjcaaaQuo2
namespace Go.Proofs.Ytehkccogbgjcaaa
open Go.RowKit

theorem BV.alloc2 {w : World} {N : Nat} {s : Bool} {A : Option Addr} {n c : Nat} {z : Int} (h : BV w N s A n c z) (o : Obj) : BV (w.alloc o) N s A n c z := h.below (below_alloc w o)
set_option maxHeartbeats 2000000 in
theorem RLeft_no (s : Bool) (A : Option Addr) (n c : Nat) (w : World) :
    Calls Try.prog 18 #[.agg #[.bool s, .slice A n c], .int .i64 0] w (MadeB w 0 0) := by
  have HF := hide (fun w => RFloor_no s A n c w)
  have W0 := hide (Two.below w s A n c)
  have Y0 := hide (show Bx (Two w s A n c) (w.heap.size + 1) [.bool false, .slice none 0 0] from Bx.at (w := w.alloc (.cells #[.bool s, .slice A n c] 24)) [.bool false, .slice none 0 0] 24 (by simp))
  have Z0 := hide (Two.box w s A n c _ (Bel.refl _))
  have E0 := hide (show (w.alloc (.cells #[.bool s, .slice A n c] 24)).alloc (.cells #[.bool false, .slice none 0 0] 24) = Two w s A n c from rfl)
  go_enter Try.func18, Try.ntmps18
  go_wp2_with fail
  rw [E0.out]
  refine (HF.out _).mono ?_
  rintro e w1 ⟨s1, A1, n1, c1, rfl, hB1, hb1⟩
  have V5 := hide (hB1.alloc2 (.cells #[.bool s1, .slice A1 n1 c1] 24))
  have Y1 := hide ((Y0.out.below hb1).alloc (.cells #[.bool s1, .slice A1 n1 c1] 24))
  have Z1 := hide ((Z0.out.below hb1).below (below_alloc w1 (.cells #[.bool s1, .slice A1 n1 c1] 24)))
  have L1 := hide (W0.out.trans (hb1.mono W0.out.size))
  have LW := hide (L1.out.alloc L1.out.size (.cells #[.bool s1, .slice A1 n1 c1] 24))
  have hz := hide (show w.heap.size + 2 ≤ w1.heap.size by have := hb1.size; rw [Two.size] at this; exact this)
  clear hB1 hb1 Y0 Z0
  obtain ⟨_, q0, q1, q2, q3⟩ := Y1.out.two
  go_wp2_with fail
  refine bodyPost_ret (v := .agg #[.bool s1, .slice A1 n1 c1]) (by simp [results, Try.results18, go_sem, q0, q1]) rfl ?_
  exact MadeB.fin LW.out (Nat.le_succ _) Z1.out V5.out _ _
set_option maxHeartbeats 2000000 in
theorem RLeft_yes (N : Nat) (hN : N ≤ 9000) (h5 : 5 ≤ N) (s : Bool) (A : Option Addr) (n c : Nat) (z b : Int) (w : World) (h : BV w N s A n c z) (hb : -9223372036854775808 ≤ b ∧ b ≤ 9223372036854775807) (h0 : b ≠ 0) :
    Calls Try.prog 18 #[.agg #[.bool s, .slice A n c], .int .i64 b] w (MadeB w (N + 13) (z - Int.fdiv z b * b)) := by
  have HO := hide (fun w => Of_any b w hb.1 hb.2)
  have HF := hide (fun w (h : BV w N s A n c z) => RFloor_yes N (by omega) h5 s A n c z b w h hb h0)
  have W0 := hide (Two.below w s A n c)
  have V0 := hide (h.below W0.out)
  have X0 := hide (show Bx (Two w s A n c) w.heap.size [.bool s, .slice A n c] from (Bx.new w [.bool s, .slice A n c] 24).alloc _)
  have Y0 := hide (show Bx (Two w s A n c) (w.heap.size + 1) [.bool false, .slice none 0 0] from Bx.at (w := w.alloc (.cells #[.bool s, .slice A n c] 24)) [.bool false, .slice none 0 0] 24 (by simp))
  have Z0 := hide (Two.box w s A n c _ (Bel.refl _))
  have E0 := hide (show (w.alloc (.cells #[.bool s, .slice A n c] 24)).alloc (.cells #[.bool false, .slice none 0 0] 24) = Two w s A n c from rfl)
  clear h hb h0
  go_enter Try.func18, Try.ntmps18
  go_wp2_with fail
  rw [E0.out]
  refine (HF.out _ V0.out).mono ?_
  rintro e w1 ⟨s1, A1, n1, c1, rfl, hB1, hb1⟩
  have X5 := hide (Bx.at (w := w1) (g := w1.heap.size) [.bool s1, .slice A1 n1 c1] 24 rfl)
  have V5 := hide (hB1.alloc2 (.cells #[.bool s1, .slice A1 n1 c1] 24))
  have X1 := hide ((X0.out.below hb1).alloc (.cells #[.bool s1, .slice A1 n1 c1] 24))
  have Y1 := hide ((Y0.out.below hb1).alloc (.cells #[.bool s1, .slice A1 n1 c1] 24))
  have Z1 := hide ((Z0.out.below hb1).below (below_alloc w1 (.cells #[.bool s1, .slice A1 n1 c1] 24)))
  have V1 := hide ((V0.out.below hb1).alloc2 (.cells #[.bool s1, .slice A1 n1 c1] 24))
  have L1 := hide (W0.out.trans (hb1.mono W0.out.size))
  have LW := hide (L1.out.alloc L1.out.size (.cells #[.bool s1, .slice A1 n1 c1] 24))
  have hz := hide (show w.heap.size + 2 ≤ w1.heap.size by have := hb1.size; rw [Two.size] at this; exact this)
  clear hB1 hb1 X0 Y0 Z0 V0
  go_wp2_with fail
  generalize w1.alloc (.cells #[.bool s1, .slice A1 n1 c1] 24) = W at X5 V5 X1 Y1 Z1 V1 LW ⊢
  have KC := hide (fun w' (h : Bel W w') => (⟨(X1.out.below h).two.2.1, (X1.out.below h).two.2.2.1, (X5.out.below h).two.2.1, (X5.out.below h).two.2.2.1⟩ :
    w'.cell? ⟨w.heap.size, 0, none⟩ = some (.bool s) ∧ w'.cell? ⟨w.heap.size, 1, none⟩ = some (.slice A n c) ∧ w'.cell? ⟨w1.heap.size, 0, none⟩ = some (.bool s1) ∧ w'.cell? ⟨w1.heap.size, 1, none⟩ = some (.slice A1 n1 c1)))
  have NE1 : w.heap.size ≠ w.heap.size + 1 := by omega
  have NE5 : w1.heap.size ≠ w.heap.size + 1 := by have := hz.out; omega
  have KF := hide (fun w' u v (h : Bel W w') => (⟨cell_far NE1 (KC.out w' h).1, cell_far NE1 (KC.out w' h).2.1, cell_far NE5 (KC.out w' h).2.2.1, cell_far NE5 (KC.out w' h).2.2.2⟩ :
    ((w'.setCell ⟨w.heap.size + 1, 0, none⟩ u).setCell ⟨w.heap.size + 1, 1, none⟩ v).cell? ⟨w.heap.size, 0, none⟩ = some (.bool s) ∧ ((w'.setCell ⟨w.heap.size + 1, 0, none⟩ u).setCell ⟨w.heap.size + 1, 1, none⟩ v).cell? ⟨w.heap.size, 1, none⟩ = some (.slice A n c) ∧ ((w'.setCell ⟨w.heap.size + 1, 0, none⟩ u).setCell ⟨w.heap.size + 1, 1, none⟩ v).cell? ⟨w1.heap.size, 0, none⟩ = some (.bool s1) ∧ ((w'.setCell ⟨w.heap.size + 1, 0, none⟩ u).setCell ⟨w.heap.size + 1, 1, none⟩ v).cell? ⟨w1.heap.size, 1, none⟩ = some (.slice A1 n1 c1)))
  have KA := hide (fun w' (h : Bel W w') => V1.out.below h)
  have KB := hide (fun w' (h : Bel W w') => V5.out.below h)
  have KY := hide (fun w' (h : Bel W w') => (Y1.out.below h).two)
  clear X5 V5 X1 Y1 V1 NE1 NE5 L1
  go_region_held3 (fun w' => w'.cell? ⟨w.heap.size, 0, none⟩ = some (.bool s) ∧ w'.cell? ⟨w.heap.size, 1, none⟩ = some (.slice A n c) ∧ w'.cell? ⟨w1.heap.size, 0, none⟩ = some (.bool s1) ∧ w'.cell? ⟨w1.heap.size, 1, none⟩ = some (.slice A1 n1 c1))
    (((first | (with_reducible refine KF.out _ _ _ ?_) | (with_reducible refine KC.out _ ?_)); repeat (first | assumption | exact Bel.refl _ | refine Bel.drew ?_)))
    (first
      | (go_at_call 11; refine (HO.out _).mono ?_; rintro e w4 ⟨s4, A4, n4, c4, rfl, hB, hb⟩; have k4 : Bel W w4 := Bel.trans (by repeat (first | assumption | exact Bel.refl _ | refine Bel.drew ?_)) hb; have B4 := hide hB; clear hB hb)
      | (go_at_call 56; refine (Mul_any (N + 6) 5 (by omega) (by omega) _ _ _ _ _ _ _ _ (Int.fdiv z b) b _ (KB.out _ (by repeat (first | assumption | exact Bel.refl _ | refine Bel.drew ?_))) B4.out).mono ?_; rintro e w6 ⟨s6, A6, n6, c6, rfl, hB, hb⟩; have k6 : Bel W w6 := Bel.trans (by repeat (first | assumption | exact Bel.refl _ | refine Bel.drew ?_)) hb; have B6 := hide hB; clear hB hb)
      | (go_at_call 55; refine (Sub_any (N + 6 + 5 + 1) (by omega) _ _ _ _ _ _ _ _ z (Int.fdiv z b * b) _ ((KA.out _ (by repeat (first | assumption | exact Bel.refl _ | refine Bel.drew ?_))).more (by omega)) B6.out).mono ?_; rintro e w7 ⟨s7, A7, n7, c7, rfl, hB, hb⟩; have k7 : Bel W w7 := Bel.trans (by repeat (first | assumption | exact Bel.refl _ | refine Bel.drew ?_)) hb; have B7 := hide hB; obtain ⟨_, q0, q1, q2, q3⟩ := KY.out _ k7; clear hB hb))
  go_wp2_with fail
  refine bodyPost_ret (v := .agg #[.bool s7, .slice A7 n7 c7]) (by simp [results, Try.results18, go_sem, q0, q1]) rfl ?_
  exact (MadeB.fin (LW.out.trans (Below.mono k7 LW.out.size)) (Nat.le_succ _) (Z1.out.below k7) B7.out _ _).more (by omega)
end Go.Proofs.Ytehkccogbgjcaaa
