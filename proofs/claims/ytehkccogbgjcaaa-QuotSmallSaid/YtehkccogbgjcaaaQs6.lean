/-
Contracts of the second reference: Near. No statement is proved here.
-/
import Derived.Test.YtehkccogbgjcaaaQs5
import Derived.Deep.DeepCutAuto
namespace Go.Proofs.Ytehkccogbgjcaaa
open Go.RowKit

theorem Bel.alloc {w w' : World} (h : Bel w w') (o : Obj) : Bel w (w'.alloc o) := Below.alloc h h.size o
theorem Bel.setCell {w w' : World} (h : Bel w w') {g i : Nat} (hg : w.heap.size ≤ g) (u : Value) : Bel w (w'.setCell ⟨g, i, none⟩ u) := Below.setCell h hg u
theorem Bx.set2 {w : World} {g : Nat} {x0 x1 : Value} (h : Bx w g [x0, x1]) (u0 u1 : Value) : Bx ((w.setCell ⟨g, 0, none⟩ u0).setCell ⟨g, 1, none⟩ u1) g [u0, u1] := by
  obtain ⟨h0, c0, c1, f0, f1⟩ := h.two
  refine ⟨by simpa using h0, fun i v hv => ?_⟩
  match i, hv with
  | 0, hv => simp at hv; subst hv; refine ⟨?_, by simpa using f0⟩; simp [go_sem, c0]
  | 1, hv => simp at hv; subst hv; refine ⟨?_, by simpa using f1⟩; simp [go_sem, c1]
  | i + 2, hv => simp at hv
theorem Bx.other2 {w : World} {g h : Nat} {xs : List Value} (k : Bx w g xs) (hne : g ≠ h) (u0 u1 : Value) : Bx ((w.setCell ⟨h, 0, none⟩ u0).setCell ⟨h, 1, none⟩ u1) g xs := (k.other hne _).other hne _
theorem Box.at {w : World} {g : Nat} (cs : Array Value) (t : TypeId) (ht : t ≠ 3) (hg : g = w.heap.size) : Box (w.alloc (.cells cs t)) g := hg ▸ Box.new w cs t ht
theorem Box.alloc {w : World} {g : Nat} (h : Box w g) (o : Obj) : Box (w.alloc o) g := h.below (below_alloc w o)
theorem Box.drew {w : World} {g : Nat} (h : Box w g) : Box w.drew g := h.below ((Below.refl _ _).drew)
theorem BV.drew {w : World} {N : Nat} {s : Bool} {A : Option Addr} {n c : Nat} {z : Int} (h : BV w N s A n c z) : BV w.drew N s A n c z := h.below ((Below.refl _ _).drew)
/-- behind the third statement -/
def NQ (W : World) (N : Nat) (z : Int) (s7 : Value) (wx : World) : Prop :=
  ∃ (g7 : Nat) (s : Bool) (A : Option Addr) (n c : Nat), s7 = .pointer (some ⟨g7, 0, none⟩) ∧ Bx wx g7 [.bool s, .slice A n c] ∧ BV wx N s A n c z ∧ W.heap.size ≤ g7 ∧ Bel W wx

set_option maxHeartbeats 4000000 in
theorem RNear_yes (N : Nat) (hN : N ≤ 9000) (h5 : 5 ≤ N) (s : Bool) (A : Option Addr) (n c : Nat) (z b : Int) (w : World) (h : BV w N s A n c z) (hb : -9223372036854775808 ≤ b ∧ b ≤ 9223372036854775807) (h0 : b ≠ 0) :
    Calls Try.prog 16 #[.agg #[.bool s, .slice A n c], .int .i64 b] w (MadeP w (N + 8) (Int.fdiv (z + z + b) (b + b)) true) := by
  have hb0 : (b == 0) = false := by simpa using h0
  have HO := hide (fun w => Of_any b w hb.1 hb.2)
  have hbb := hide (show b + b ≠ 0 by omega)
  have W0 := hide (Two.below w s A n c)
  have V0 := hide (h.below W0.out)
  have X0 := hide (show Bx (Two w s A n c) w.heap.size [.bool s, .slice A n c] from (Bx.new w [.bool s, .slice A n c] 24).alloc _)
  have Y0 := hide (show Bx (Two w s A n c) (w.heap.size + 1) [.bool false, .slice none 0 0] from Bx.at (w := w.alloc (.cells #[.bool s, .slice A n c] 24)) [.bool false, .slice none 0 0] 24 (by simp))
  have Z0 := hide (Two.box w s A n c _ (Bel.refl _))
  have E0 := hide (show (w.alloc (.cells #[.bool s, .slice A n c] 24)).alloc (.cells #[.bool false, .slice none 0 0] 24) = Two w s A n c from rfl)
  clear h hb h0
  go_enter Try.func16, Try.ntmps16
  go_wp2_with fail
  rw [E0.out]
  refine (HO.out _).mono ?_
  rintro e w1 ⟨s1, A1, n1, c1, rfl, hB1, hb1⟩
  have X6 := hide (Bx.at (w := w1) (g := w1.heap.size) [.bool s1, .slice A1 n1 c1] 24 rfl)
  have V6 := hide ((hB1.alloc2 (.cells #[.bool s1, .slice A1 n1 c1] 24)).more h5)
  have X1 := hide ((X0.out.below hb1).alloc (.cells #[.bool s1, .slice A1 n1 c1] 24))
  have Y1 := hide ((Y0.out.below hb1).alloc (.cells #[.bool s1, .slice A1 n1 c1] 24))
  have Z1 := hide ((Z0.out.below hb1).below (below_alloc w1 (.cells #[.bool s1, .slice A1 n1 c1] 24)))
  have V1 := hide ((V0.out.below hb1).alloc2 (.cells #[.bool s1, .slice A1 n1 c1] 24))
  have L1 := hide (W0.out.trans (hb1.mono W0.out.size))
  have LW := hide (L1.out.alloc L1.out.size (.cells #[.bool s1, .slice A1 n1 c1] 24))
  have hz := hide (show w.heap.size + 2 ≤ w1.heap.size by have := hb1.size; rw [Two.size] at this; exact this)
  have hW := hide (show w1.heap.size < (w1.alloc (.cells #[.bool s1, .slice A1 n1 c1] 24)).heap.size by simp)
  clear hB1 hb1 X0 Y0 Z0 V0
  go_upto_region 4 with fail
  generalize w1.alloc (.cells #[.bool s1, .slice A1 n1 c1] 24) = W at X6 V6 X1 Y1 Z1 V1 LW hW ⊢
  have KC := hide (fun w' (h : Bel W w') => (⟨(X1.out.below h).two.2.1, (X1.out.below h).two.2.2.1, (X6.out.below h).two.2.1, (X6.out.below h).two.2.2.1⟩ :
    w'.cell? ⟨w.heap.size, 0, none⟩ = some (.bool s) ∧ w'.cell? ⟨w.heap.size, 1, none⟩ = some (.slice A n c) ∧ w'.cell? ⟨w1.heap.size, 0, none⟩ = some (.bool s1) ∧ w'.cell? ⟨w1.heap.size, 1, none⟩ = some (.slice A1 n1 c1)))
  have KA := hide (fun w' (h : Bel W w') => V1.out.below h)
  have KB := hide (fun w' (h : Bel W w') => V6.out.below h)
  go_cut [7] (fun s7 wx => NQ W (N + 2) (z + z + b) s7 wx)
  case first =>
    clear Y1 Z1 V1 X1 X6 V6 L1 LW hW hz W0
    go_region_held3 (fun w' => w'.cell? ⟨w.heap.size, 0, none⟩ = some (.bool s) ∧ w'.cell? ⟨w.heap.size, 1, none⟩ = some (.slice A n c) ∧ w'.cell? ⟨w1.heap.size, 0, none⟩ = some (.bool s1) ∧ w'.cell? ⟨w1.heap.size, 1, none⟩ = some (.slice A1 n1 c1))
      ((refine KC.out _ ?_; repeat (first | assumption | exact Bel.refl _ | refine Bel.drew ?_ | refine Bel.alloc ?_ _ | (refine Bel.setCell ?_ ?_ _; case refine_2 => omega))))
      (first
        | (go_at_call_of 52 (Value.agg #[.bool s, .slice A n c]); refine (Add_any N (by omega) _ _ _ _ _ _ _ _ z z _ (KA.out _ (by repeat (first | assumption | exact Bel.refl _ | refine Bel.drew ?_ | refine Bel.alloc ?_ _ | (refine Bel.setCell ?_ ?_ _; case refine_2 => omega)))) (KA.out _ (by repeat (first | assumption | exact Bel.refl _ | refine Bel.drew ?_ | refine Bel.alloc ?_ _ | (refine Bel.setCell ?_ ?_ _; case refine_2 => omega))))).mono ?_; rintro e w2 ⟨s2, A2, n2, c2, rfl, hB, hb⟩; have k2 : Bel W w2 := Bel.trans (by repeat (first | assumption | exact Bel.refl _ | refine Bel.drew ?_ | refine Bel.alloc ?_ _ | (refine Bel.setCell ?_ ?_ _; case refine_2 => omega))) hb; have hc2 := (bcell hb).1; have hf2 := (bcell hb).2; have hca2 := bcell1 hb; have hfa2 := bfrozen hb; have mz2 := bless hb; (try simp only [World.size_alloc] at mz2); have hz2 := hb.size; (try simp at hz2); have B2 := hide hB; have Hb2 := hide hb; clear hB hb)
        | (go_at_call_of 52 (Value.agg #[.bool s1, .slice A1 n1 c1]); refine (Add_any (N + 1) (by omega) _ _ _ _ _ _ _ _ (z + z) b _ (B2.out.below (by first | exact Below.refl _ _ | exact (Below.refl _ _).drew | (exact below_alloc _ _))) ((KB.out _ (by repeat (first | assumption | exact Bel.refl _ | refine Bel.drew ?_ | refine Bel.alloc ?_ _ | (refine Bel.setCell ?_ ?_ _; case refine_2 => omega)))).more (by omega))).mono ?_; rintro e w3 ⟨s3, A3, n3, c3, rfl, hB, hb⟩; have k3 : Bel W w3 := Bel.trans (by repeat (first | assumption | exact Bel.refl _ | refine Bel.drew ?_ | refine Bel.alloc ?_ _ | (refine Bel.setCell ?_ ?_ _; case refine_2 => omega))) hb; have hc3 := (bcell hb).1; have hf3 := (bcell hb).2; have hca3 := bcell1 hb; have hfa3 := bfrozen hb; have mz3 := bless hb; (try simp only [World.size_alloc] at mz3); have hz3 := hb.size; (try simp at hz3); have B3 := hide hB; have Hb3 := hide hb; clear hB hb))
    all_goals
      go_wp2_with fail
      go_meet
      refine ⟨_, s3, A3, n3, c3, rfl, ?_, ?_, ?_, ?_⟩
      · repeat (first
          | ((with_reducible refine Bx.at [.bool s3, .slice A3 n3 c3] _ ?_); simp; done)
          | ((with_reducible refine Bx.at [.bool false, .slice none 0 0] _ ?_); simp; done)
          | with_reducible refine Bx.drew ?_
          | with_reducible refine Bx.alloc ?_ _
          | with_reducible refine Bx.set2 (x0 := .bool false) (x1 := .slice none 0 0) ?_ _ _
          | with_reducible refine Bx.below ?_ Hb3.out
          | with_reducible refine Bx.below ?_ Hb2.out)
      · repeat (first
          | exact B3.out.more (by omega)
          | with_reducible refine BV.drew ?_
          | with_reducible refine BV.alloc2 ?_ _
          | ((with_reducible refine BV.boxed ?_ ?_ _ _); case refine_2 => (repeat (first | ((with_reducible refine Box.at _ _ (by decide) ?_); simp; done) | with_reducible refine Box.set_ ?_ _ _ _ | with_reducible refine Box.drew ?_ | with_reducible refine Box.alloc ?_ _ | with_reducible refine Box.below ?_ Hb3.out | with_reducible refine Box.below ?_ Hb2.out)))
          | with_reducible refine BV.below ?_ Hb3.out)
      · first | exact Nat.le_refl _ | omega | (simp; omega)
      · repeat (first | assumption | exact Bel.refl _ | refine Bel.drew ?_ | refine Bel.alloc ?_ _ | (refine Bel.setCell ?_ ?_ _; case refine_2 => omega))
  case rest =>
    obtain ⟨g7, s7, A7, n7, c7, rfl, hX7, hV7, hg7, hk7⟩ := hcut
    have NE6 : w1.heap.size ≠ w.heap.size + 1 := by have := hz.out; omega
    have NE7 : g7 ≠ w.heap.size + 1 := by have := hz.out; have := hW.out; omega
    have X6' := hide (X6.out.below hk7)
    have V6' := hide (V6.out.below hk7)
    have Y1' := hide (Y1.out.below hk7)
    have Z1' := hide (Z1.out.below hk7)
    have LW' := hide (LW.out.trans (Below.mono hk7 LW.out.size))
    have X7 := hide hX7
    have V7 := hide hV7
    clear KC KA KB X1 V1 X6 V6 Y1 Z1 L1 LW hW hz hk7 hX7 hV7 hg7 W0 HO
    go_wp2_with fail
    have KC := hide (fun w' (h : Bel wc w') => (⟨(X6'.out.below h).two.2.1, (X6'.out.below h).two.2.2.1, (X7.out.below h).two.2.1, (X7.out.below h).two.2.2.1⟩ :
      w'.cell? ⟨w1.heap.size, 0, none⟩ = some (.bool s1) ∧ w'.cell? ⟨w1.heap.size, 1, none⟩ = some (.slice A1 n1 c1) ∧ w'.cell? ⟨g7, 0, none⟩ = some (.bool s7) ∧ w'.cell? ⟨g7, 1, none⟩ = some (.slice A7 n7 c7)))
    have KF := hide (fun w' u v (h : Bel wc w') => (⟨cell_far NE6 (KC.out w' h).1, cell_far NE6 (KC.out w' h).2.1, cell_far NE7 (KC.out w' h).2.2.1, cell_far NE7 (KC.out w' h).2.2.2⟩ :
      ((w'.setCell ⟨w.heap.size + 1, 0, none⟩ u).setCell ⟨w.heap.size + 1, 1, none⟩ v).cell? ⟨w1.heap.size, 0, none⟩ = some (.bool s1) ∧ ((w'.setCell ⟨w.heap.size + 1, 0, none⟩ u).setCell ⟨w.heap.size + 1, 1, none⟩ v).cell? ⟨w1.heap.size, 1, none⟩ = some (.slice A1 n1 c1) ∧ ((w'.setCell ⟨w.heap.size + 1, 0, none⟩ u).setCell ⟨w.heap.size + 1, 1, none⟩ v).cell? ⟨g7, 0, none⟩ = some (.bool s7) ∧ ((w'.setCell ⟨w.heap.size + 1, 0, none⟩ u).setCell ⟨w.heap.size + 1, 1, none⟩ v).cell? ⟨g7, 1, none⟩ = some (.slice A7 n7 c7)))
    have KA := hide (fun w' (h : Bel wc w') => V6'.out.below h)
    have KB := hide (fun w' (h : Bel wc w') => V7.out.below h)
    have KY := hide (fun w' (h : Bel wc w') => (Y1'.out.below h).two)
    clear X6' X7 V6' V7 Y1' NE6 NE7
    go_region_held3 (fun w' => w'.cell? ⟨w1.heap.size, 0, none⟩ = some (.bool s1) ∧ w'.cell? ⟨w1.heap.size, 1, none⟩ = some (.slice A1 n1 c1) ∧ w'.cell? ⟨g7, 0, none⟩ = some (.bool s7) ∧ w'.cell? ⟨g7, 1, none⟩ = some (.slice A7 n7 c7))
      (((first | (with_reducible refine KF.out _ _ _ ?_) | (with_reducible refine KC.out _ ?_)); repeat (first | assumption | exact Bel.refl _ | refine Bel.drew ?_)))
      (first
        | (go_at_call 52; refine (Add_any N (by omega) _ _ _ _ _ _ _ _ b b _ (KA.out _ (by repeat (first | assumption | exact Bel.refl _ | refine Bel.drew ?_))) (KA.out _ (by repeat (first | assumption | exact Bel.refl _ | refine Bel.drew ?_)))).mono ?_; rintro e w4 ⟨s4, A4, n4, c4, rfl, hB, hb⟩; have k4 : Bel wc w4 := Bel.trans (by repeat (first | assumption | exact Bel.refl _ | refine Bel.drew ?_)) hb; have B4 := hide hB; clear hB hb)
        | (go_at_call 51; refine (Floor_any (N + 2) (by omega) _ _ _ _ _ _ _ _ (z + z + b) (b + b) _ (KB.out _ (by repeat (first | assumption | exact Bel.refl _ | refine Bel.drew ?_))) (B4.out.more (by omega)) hbb.out).mono ?_; rintro e w5 ⟨s5, A5, n5, c5, rfl, hB, hb⟩; have k5 : Bel wc w5 := Bel.trans (by repeat (first | assumption | exact Bel.refl _ | refine Bel.drew ?_)) hb; have B5 := hide hB; obtain ⟨_, q0, q1, q2, q3⟩ := KY.out _ k5; clear hB hb))
    go_wp2_with fail
    refine bodyPost_ret (v := .tuple #[.agg #[.bool s5, .slice A5 n5 c5], .bool true]) (by simp [results, Try.results16, go_sem, q0, q1]) rfl ?_
    obtain ⟨t1, t2, t3, t4, e1, e2, e3⟩ := MadeB.fin (LW'.out.trans (Below.mono k5 LW'.out.size)) (Nat.le_succ _) (Z1'.out.below k5) B5.out (.bool s5) (.slice A5 n5 c5)
    injection e1 with e1
    injection e1 with e1
    exact ⟨_, _, _, _, rfl, by simp_all, e3⟩
end Go.Proofs.Ytehkccogbgjcaaa
