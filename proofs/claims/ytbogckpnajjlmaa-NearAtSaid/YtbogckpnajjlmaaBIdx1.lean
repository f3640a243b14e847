/-
Contract of the reference of layer 8: what is left of a number. No statement is proved here.
-/
import Derived.Test.YtbogckpnajjlmaaSmall
import Derived.Test.YtbogckpnajjlmaaBord1
namespace Go.Proofs.Ytbogckpnajjlmaa
open Go.RowKit

theorem BV.alloc' {w : World} {N : Nat} {s : Bool} {A : Option Addr} {n c : Nat} {z : Int} (h : BV w N s A n c z) (o : Obj) : BV (w.alloc o) N s A n c z := h.below (below_alloc w o)

set_option maxHeartbeats 2000000 in
theorem left_any (i n : Int) (hi : -9223372036854775808 ≤ i ∧ i ≤ 9223372036854775807) (hn : 1 ≤ n ∧ n ≤ 9223372036854775807) (w : World) : Calls Try.prog 78 #[.int .i64 i, .int .i64 n] w (Says w (.int .i64 (i % n))) := by
  have HI := hide (fun w => Of_any i w hi.1 hi.2)
  have HN := hide (fun w => Of_any n w (by omega) hn.2)
  have hn0 : n ≠ 0 := by omega
  have ez := emod_of_fdiv (i := i) hn.1
  have r1 := Int.emod_nonneg i (show n ≠ 0 by omega)
  have r2 := Int.emod_lt_of_pos i (show 0 < n by omega)
  have HR := hide (show -9223372036854775808 ≤ i % n ∧ i % n ≤ 9223372036854775807 by omega)
  have EZ := Lib.hid ez
  have HN0 := hide hn0
  clear ez hn0 r1 r2 hi hn
  go_enter Try.func78, Try.ntmps78
  go_wp2_with fail
  refine (HI.out _).mono ?_
  rintro e w1 ⟨s1, A1, n1, c1, rfl, hB1, hb1⟩
  have X1 := hide (Bx.at (w := w1) (g := w1.heap.size) [.bool s1, .slice A1 n1 c1] 98 rfl)
  have V1 := hide (hB1.alloc' (.cells #[.bool s1, .slice A1 n1 c1] 98))
  have L1 := hide (hb1.alloc hb1.size (.cells #[.bool s1, .slice A1 n1 c1] 98))
  clear hB1 hb1
  go_wp2_with fail
  refine (HN.out _).mono ?_
  rintro e w2 ⟨s2, A2, n2, c2, rfl, hB2, hb2⟩
  have X2 := hide (Bx.at (w := w2) (g := w2.heap.size) [.bool s2, .slice A2 n2 c2] 98 rfl)
  have X1' := hide ((X1.out.below hb2).alloc (.cells #[.bool s2, .slice A2 n2 c2] 98))
  have V2 := hide (hB2.alloc' (.cells #[.bool s2, .slice A2 n2 c2] 98))
  have V1' := hide ((V1.out.below hb2).alloc' (.cells #[.bool s2, .slice A2 n2 c2] 98))
  have hz := hb2.size
  have L2 := hide ((L1.out.trans (hb2.mono L1.out.size)).alloc (Nat.le_trans L1.out.size hz) (.cells #[.bool s2, .slice A2 n2 c2] 98))
  clear hB2 hb2 hz X1 V1 L1
  go_wp2_with fail
  generalize w2.alloc (.cells #[.bool s2, .slice A2 n2 c2] 98) = W at X2 X1' V2 V1' L2 ⊢
  have KC := hide (fun w' (h : Bel W w') => (⟨(X1'.out.below h).two.2.1, (X1'.out.below h).two.2.2.1, (X2.out.below h).two.2.1, (X2.out.below h).two.2.2.1⟩ :
    w'.cell? ⟨w1.heap.size, 0, none⟩ = some (.bool s1) ∧ w'.cell? ⟨w1.heap.size, 1, none⟩ = some (.slice A1 n1 c1) ∧ w'.cell? ⟨w2.heap.size, 0, none⟩ = some (.bool s2) ∧ w'.cell? ⟨w2.heap.size, 1, none⟩ = some (.slice A2 n2 c2)))
  have KA := hide (fun w' (h : Bel W w') => V1'.out.below h)
  have KB := hide (fun w' (h : Bel W w') => V2.out.below h)
  clear X2 X1' V2 V1'
  go_region_held3 (fun w' => w'.cell? ⟨w1.heap.size, 0, none⟩ = some (.bool s1) ∧ w'.cell? ⟨w1.heap.size, 1, none⟩ = some (.slice A1 n1 c1) ∧ w'.cell? ⟨w2.heap.size, 0, none⟩ = some (.bool s2) ∧ w'.cell? ⟨w2.heap.size, 1, none⟩ = some (.slice A2 n2 c2))
    ((refine KC.out _ ?_; repeat (first | assumption | exact Bel.refl _ | refine Bel.drew ?_)))
    (first
      | (go_at_call 101; refine (Floor_any 5 (by omega) _ _ _ _ _ _ _ _ i n _ (KA.out _ (by repeat (first | assumption | exact Bel.refl _ | refine Bel.drew ?_))) (KB.out _ (by repeat (first | assumption | exact Bel.refl _ | refine Bel.drew ?_))) HN0.out).mono ?_; rintro e w3 ⟨s3, A3, n3, c3, rfl, hB, hb⟩; have k3 : Bel W w3 := Bel.trans (by repeat (first | assumption | exact Bel.refl _ | refine Bel.drew ?_)) hb; have B3 := hide hB; clear hB hb)
      | (go_at_call 92; refine (Mul_any 11 5 (by omega) (by omega) _ _ _ _ _ _ _ _ (Int.fdiv i n) n _ B3.out (KB.out _ (by repeat (first | assumption | exact Bel.refl _ | refine Bel.drew ?_)))).mono ?_; rintro e w4 ⟨s4, A4, n4, c4, rfl, hB, hb⟩; have k4 : Bel W w4 := Bel.trans (by repeat (first | assumption | exact Bel.refl _ | refine Bel.drew ?_)) hb; have B4 := hide hB; clear hB hb)
      | (go_at_call 83; refine (Sub_any 17 (by omega) _ _ _ _ _ _ _ _ i (Int.fdiv i n * n) _ ((KA.out _ (by repeat (first | assumption | exact Bel.refl _ | refine Bel.drew ?_))).more (by omega)) B4.out).mono ?_; rw [EZ.out]; rintro e w5 ⟨s5, A5, n5, c5, rfl, hB, hb⟩; have k5 : Bel W w5 := Bel.trans (by repeat (first | assumption | exact Bel.refl _ | refine Bel.drew ?_)) hb; have B5 := hide hB; clear hB hb)
      | (go_at_call 82; refine (Small_any 18 _ _ _ _ (i % n) _ B5.out HR.out.1 HR.out.2).mono ?_; rintro e w6 ⟨rfl, hb⟩; have k6 : Bel W w6 := Bel.trans (by repeat (first | assumption | exact Bel.refl _ | refine Bel.drew ?_)) hb; clear hb))
  go_wp2_with fail
  go_ret
  exact ⟨rfl, L2.out.trans (Below.mono k6 L2.out.size)⟩

end Go.Proofs.Ytbogckpnajjlmaa
