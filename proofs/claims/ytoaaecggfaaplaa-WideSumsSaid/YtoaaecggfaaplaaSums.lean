/-
The law WideSums: its walk. No statement is proved here.
-/
import Derived.Test.YtoaaecggfaaplaaTold
import Derived.Test.YtoaaecggfaaplaaAlive1
import Derived.Deep.DeepCutAuto
import Derived.Test.YtoaaecggfaaplaaKit
namespace Go.Proofs.Ytoaaecggfaaplaa
open Go.RowKit

theorem Bel.alloc {w w' : World} (h : Bel w w') (o : Obj) : Bel w (w'.alloc o) := Below.alloc h h.size o
theorem Bel.setCell {w w' : World} (h : Bel w w') {g i : Nat} (hg : w.heap.size ≤ g) (u : Value) : Bel w (w'.setCell ⟨g, i, none⟩ u) := Below.setCell h hg u
/-- two boxes of numbers -/
def TwoI (w : World) (h1 h2 : Int) (l1 l2 : Nat) : World := (w.alloc (.cells #[.int .i64 h1, .int .u64 l1] 24)).alloc (.cells #[.int .i64 h2, .int .u64 l2] 24)
theorem TwoI.below (w : World) (h1 h2 : Int) (l1 l2 : Nat) : Below w.heap.size w (TwoI w h1 h2 l1 l2) := below_alloc2 w _ _
theorem TwoI.size (w : World) (h1 h2 : Int) (l1 l2 : Nat) : (TwoI w h1 h2 l1 l2).heap.size = w.heap.size + 2 := by simp [TwoI]
theorem TwoI.start (w : World) (h1 h2 : Int) (l1 l2 : Nat) : Bel (TwoI w h1 h2 l1 l2) ((w.alloc (.cells #[.int .i64 h1, .int .u64 l1] 24)).alloc (.cells #[.int .i64 h2, .int .u64 l2] 24)) := Bel.refl _
theorem TwoI.args (w : World) (h1 h2 : Int) (l1 l2 : Nat) (w' : World) (h : Bel (TwoI w h1 h2 l1 l2) w') :
    w'.cell? ⟨w.heap.size, 0, none⟩ = some (.int .i64 h1) ∧ w'.cell? ⟨w.heap.size, 1, none⟩ = some (.int .u64 l1) ∧ w'.cell? ⟨w.heap.size + 1, 0, none⟩ = some (.int .i64 h2) ∧ w'.cell? ⟨w.heap.size + 1, 1, none⟩ = some (.int .u64 l2) := by
  have hz := TwoI.size w h1 h2 l1 l2
  refine ⟨?_, ?_, ?_, ?_⟩
  · rw [h.cell 0 (by omega)]; simp [TwoI, go_sem]
  · rw [h.cell 1 (by omega)]; simp [TwoI, go_sem]
  · rw [h.cell 0 (by omega)]; simp [TwoI, go_sem]
  · rw [h.cell 1 (by omega)]; simp [TwoI, go_sem]

theorem TwoI.argsA (w : World) (h1 h2 : Int) (l1 l2 : Nat) (w' : World) (h : Bel (TwoI w h1 h2 l1 l2) w') :
    (∀ o, (w'.alloc o).cell? ⟨w.heap.size, 0, none⟩ = some (.int .i64 h1)) ∧ (∀ o, (w'.alloc o).cell? ⟨w.heap.size, 1, none⟩ = some (.int .u64 l1)) ∧ (∀ o, (w'.alloc o).cell? ⟨w.heap.size + 1, 0, none⟩ = some (.int .i64 h2)) ∧ (∀ o, (w'.alloc o).cell? ⟨w.heap.size + 1, 1, none⟩ = some (.int .u64 l2)) :=
  ⟨fun o => (TwoI.args w h1 h2 l1 l2 _ (h.alloc o)).1, fun o => (TwoI.args w h1 h2 l1 l2 _ (h.alloc o)).2.1, fun o => (TwoI.args w h1 h2 l1 l2 _ (h.alloc o)).2.2.1, fun o => (TwoI.args w h1 h2 l1 l2 _ (h.alloc o)).2.2.2⟩
theorem Bel.trans' {w w1 w2 : World} (h : Bel w w1) (hb : Below w1.heap.size w1 w2) : Bel w w2 := Bel.trans h hb
theorem BV.alloc {w : World} {N : Nat} {s : Bool} {A : Option Addr} {n c : Nat} {z : Int} (h : BV w N s A n c z) (o : Obj) : BV (w.alloc o) N s A n c z := h.below (below_alloc w o)
theorem BV.drew {w : World} {N : Nat} {s : Bool} {A : Option Addr} {n c : Nat} {z : Int} (h : BV w N s A n c z) : BV w.drew N s A n c z := h.below ((Below.refl _ _).drew)
theorem Bx.set2 {w : World} {g : Nat} {x0 x1 : Value} (h : Bx w g [x0, x1]) (u0 u1 : Value) : Bx ((w.setCell ⟨g, 0, none⟩ u0).setCell ⟨g, 1, none⟩ u1) g [u0, u1] := by
  obtain ⟨h0, c0, c1, f0, f1⟩ := h.two
  refine ⟨by simpa using h0, fun i v hv => ?_⟩
  match i, hv with
  | 0, hv => simp at hv; subst hv; refine ⟨?_, by simpa using f0⟩; simp [go_sem, c0]
  | 1, hv => simp at hv; subst hv; refine ⟨?_, by simpa using f1⟩; simp [go_sem, c1]
  | i + 2, hv => simp at hv
theorem Bx.other2 {w : World} {g h : Nat} {xs : List Value} (k : Bx w g xs) (hne : g ≠ h) (u0 u1 : Value) : Bx ((w.setCell ⟨h, 0, none⟩ u0).setCell ⟨h, 1, none⟩ u1) g xs := (k.other hne _).other hne _
theorem Box.at {w : World} {g : Nat} (cs : Array Value) (t : TypeId) (ht : t ≠ 3) (hg : g = w.heap.size) : Box (w.alloc (.cells cs t)) g := hg ▸ Box.new w cs t ht
theorem Box.alloc {w : World} {g : Nat} (h : Box w g) (o : Obj) : Box (w.alloc o) g := h.below (below_alloc w o)
theorem Box.drew {w : World} {g : Nat} (h : Box w g) : Box w.drew g := h.below ((Below.refl _ _).drew)
/-- behind the first statement -/
def PQ (w : World) (h1 h2 : Int) (l1 l2 : Nat) (a b : Int) (s7 s8 : Value) (wx : World) : Prop :=
  ∃ (g7 g8 : Nat) (s1 s2 : Bool) (A1 A2 : Option Addr) (n1 n2 c1 c2 : Nat), s7 = .pointer (some ⟨g7, 0, none⟩) ∧ s8 = .pointer (some ⟨g8, 0, none⟩) ∧
    Bx wx g7 [.bool s1, .slice A1 n1 c1] ∧ Bx wx g8 [.bool s2, .slice A2 n2 c2] ∧ BV wx 10 s1 A1 n1 c1 a ∧ BV wx 10 s2 A2 n2 c2 b ∧ Bel (TwoI w h1 h2 l1 l2) wx

set_option maxHeartbeats 2000000 in
theorem WideSums_walk (h1 h2 : Int) (l1 l2 : Nat) (a b x : Int) (ha : Num h1 l1 a) (hb : Num h2 l2 b) (hx1 : -9223372036854775808 ≤ x) (hx2 : x ≤ 9223372036854775807) (w : World) :
    Calls Try.prog 3 #[.agg #[.int .i64 h1, .int .u64 l1], .agg #[.int .i64 h2, .int .u64 l2], .int .i64 x] w (Says w (.bool true)) := by
  have HA := hide (fun w => LBig_any h1 l1 a ha w)
  have HB := hide (fun w => LBig_any h2 l2 b hb w)
  have H4 := hide (TwoI.args w h1 h2 l1 l2)
  go_enter Try.func3, Try.ntmps3
  go_wp2_with fail
  go_upto_region 2 with fail
  go_cut [7, 8] (fun s7 s8 wx => PQ w h1 h2 l1 l2 a b s7 s8 wx)
  case first =>
    go_region_held3 (fun w' => w'.cell? ⟨w.heap.size, 0, none⟩ = some (.int .i64 h1) ∧ w'.cell? ⟨w.heap.size, 1, none⟩ = some (.int .u64 l1) ∧ w'.cell? ⟨w.heap.size + 1, 0, none⟩ = some (.int .i64 h2) ∧ w'.cell? ⟨w.heap.size + 1, 1, none⟩ = some (.int .u64 l2))
      ((refine H4.out _ ?_; repeat (first | assumption | exact TwoI.start _ _ _ _ _ | refine Bel.drew ?_ | refine Bel.alloc ?_ _ | refine Bel.setCell ?_ ?_ _ | (rw [TwoI.size]; omega))))
      (first
        | (go_at_call_of 8 (Value.agg #[.int .i64 h1, .int .u64 (l1 : Int)]); refine (HA.out _).mono ?_; rintro e w1 ⟨s1, A1, n1, c1, rfl, hB1, hb1⟩; have hk1 : Bel (TwoI w h1 h2 l1 l2) w1 := Bel.trans (by repeat (first | assumption | exact TwoI.start _ _ _ _ _ | refine Bel.drew ?_ | refine Bel.alloc ?_ _ | refine Bel.setCell ?_ ?_ _ | (rw [TwoI.size]; omega))) hb1; obtain ⟨hc1, hf1⟩ := bcell hb1; have hca1 := bcell1 hb1; have hfa1 := bfrozen hb1; have mz1 := bless hb1; (try simp only [World.size_alloc] at mz1); have hz1 := hb1.size; (try simp at hz1); replace hB1 := hide hB1; have Hb1 := hide hb1; clear hb1)
        | (go_at_call_of 8 (Value.agg #[.int .i64 h2, .int .u64 (l2 : Int)]); refine (HB.out _).mono ?_; rintro e w2 ⟨s2, A2, n2, c2, rfl, hB2, hb2⟩; have hk2 : Bel (TwoI w h1 h2 l1 l2) w2 := Bel.trans (by repeat (first | assumption | exact TwoI.start _ _ _ _ _ | refine Bel.drew ?_ | refine Bel.alloc ?_ _ | refine Bel.setCell ?_ ?_ _ | (rw [TwoI.size]; omega))) hb2; obtain ⟨hc2, hf2⟩ := bcell hb2; have hca2 := bcell1 hb2; have hfa2 := bfrozen hb2; have mz2 := bless hb2; (try simp only [World.size_alloc] at mz2); have hz2 := hb2.size; (try simp at hz2); replace hB2 := hide hB2; have Hb2 := hide hb2; clear hb2))
    all_goals
      go_wp2_with fail
      go_meet
      refine ⟨_, _, s1, s2, A1, A2, n1, n2, c1, c2, rfl, rfl, ?_, ?_, ?_, ?_, ?_⟩
      clear hc1 hf1 hca1 hfa1 mz1 hc2 hf2 hca2 hfa2 mz2
      iterate 2
        · repeat (first
            | ((with_reducible refine Bx.at [.bool s1, .slice A1 n1 c1] _ ?_); simp; done)
            | ((with_reducible refine Bx.at [.bool s2, .slice A2 n2 c2] _ ?_); simp; done)
            | ((with_reducible refine Bx.at [.bool false, .slice none 0 0] _ ?_); simp; done)
            | with_reducible refine Bx.drew ?_
            | with_reducible refine Bx.alloc ?_ _
            | with_reducible refine Bx.set2 (x0 := .bool false) (x1 := .slice none 0 0) ?_ _ _
            | with_reducible refine Bx.other2 ?_ (by omega) _ _
            | with_reducible refine Bx.below ?_ Hb2.out
            | with_reducible refine Bx.below ?_ Hb1.out)
      iterate 2
        · repeat (first
            | with_reducible exact hB1.out
            | with_reducible exact hB2.out
            | with_reducible refine BV.drew ?_
            | with_reducible refine BV.alloc ?_ _
            | ((with_reducible refine BV.boxed ?_ ?_ _ _); case refine_2 => (repeat (first
                | ((with_reducible refine Box.at _ _ (by decide) ?_); simp; done)
                | with_reducible refine Box.set_ ?_ _ _ _
                | with_reducible refine Box.drew ?_
                | with_reducible refine Box.alloc ?_ _
                | with_reducible refine Box.below ?_ Hb2.out
                | with_reducible refine Box.below ?_ Hb1.out)))
            | with_reducible refine BV.below ?_ Hb2.out
            | with_reducible refine BV.below ?_ Hb1.out)
      · repeat (first | with_reducible assumption | with_reducible refine Bel.drew ?_ | with_reducible refine Bel.alloc ?_ _ | ((with_reducible refine Bel.setCell ?_ ?_ _); case refine_2 => (rw [TwoI.size]; omega)))
  case rest =>
    obtain ⟨g7, g8, s1, s2, A1, A2, n1, n2, c1, c2, rfl, rfl, hX7, hX8, hP, hQ, hk⟩ := hcut
    have HAd := hide (fun w => WAdd_tol h1 h2 l1 l2 a b ha hb w)
    have HSu := hide (fun w => WSub_tol h1 h2 l1 l2 a b ha hb w)
    have HNe := hide (fun w => WNeg_tol h1 l1 a ha w)
    obtain ⟨a0, a1, b0, b1⟩ := H4.out _ hk
    have hsz := hk.size
    rw [TwoI.size] at hsz
    go_wp2_with fail
    refine (HAd.out _).mono ?_
    rintro e w3 ⟨h3, l3, o3, rfl, T3, k3⟩
    have K3 := hide k3
    have q3 := hk.trans' k3
    obtain ⟨a0', a1', b0', b1'⟩ := TwoI.argsA w h1 h2 l1 l2 _ q3
    clear a0 a1 b0 b1
    go_wp2_with fail
    refine (HSu.out _).mono ?_
    rintro e w4 ⟨h4, l4, o4, rfl, T4, k4⟩
    have K4 := hide k4
    have q4 := (q3.alloc _).trans' k4
    clear a0' a1' b0' b1'
    obtain ⟨a0', a1', b0', b1'⟩ := TwoI.argsA w h1 h2 l1 l2 _ q4
    go_wp2_with fail
    refine (HNe.out _).mono ?_
    rintro e w5 ⟨h5, l5, o5, rfl, T5, k5⟩
    have K5 := hide k5
    have q5 := (q4.alloc _).trans' k5
    clear a0' a1' b0' b1'
    have X7 := (((((hX7.below K3.out).alloc (.cells #[.int .i64 h3, .int .u64 l3] 24)).below K4.out).alloc (.cells #[.int .i64 h4, .int .u64 l4] 24)).below K5.out).alloc (.cells #[.int .i64 h5, .int .u64 l5] 24)
    have X8 := (((((hX8.below K3.out).alloc (.cells #[.int .i64 h3, .int .u64 l3] 24)).below K4.out).alloc (.cells #[.int .i64 h4, .int .u64 l4] 24)).below K5.out).alloc (.cells #[.int .i64 h5, .int .u64 l5] 24)
    have P0 := (((((hP.below K3.out).alloc (.cells #[.int .i64 h3, .int .u64 l3] 24)).below K4.out).alloc (.cells #[.int .i64 h4, .int .u64 l4] 24)).below K5.out).alloc (.cells #[.int .i64 h5, .int .u64 l5] 24)
    have Q0 := (((((hQ.below K3.out).alloc (.cells #[.int .i64 h3, .int .u64 l3] 24)).below K4.out).alloc (.cells #[.int .i64 h4, .int .u64 l4] 24)).below K5.out).alloc (.cells #[.int .i64 h5, .int .u64 l5] 24)
    have S3 := ((((Bx.new w3 [.int .i64 h3, .int .u64 l3] 24).below K4.out).alloc (.cells #[.int .i64 h4, .int .u64 l4] 24)).below K5.out).alloc (.cells #[.int .i64 h5, .int .u64 l5] 24)
    have S4 := ((Bx.new w4 [.int .i64 h4, .int .u64 l4] 24).below K5.out).alloc (.cells #[.int .i64 h5, .int .u64 l5] 24)
    have S5 := Bx.new w5 [.int .i64 h5, .int .u64 l5] 24
    have q6 := q5.alloc (.cells #[.int .i64 h5, .int .u64 l5] 24)
    have L0 := (TwoI.below w h1 h2 l1 l2).trans (Below.mono q6 (TwoI.below w h1 h2 l1 l2).size)
    obtain ⟨W, hWW⟩ : ∃ W, W = w5.alloc (.cells #[.int .i64 h5, .int .u64 l5] 24) := ⟨_, rfl⟩
    go_wp2_with fail
    have HW : ∀ w', Bel W w' → w'.cell? ⟨g7, 0, none⟩ = some (.bool s1) ∧ w'.cell? ⟨g7, 1, none⟩ = some (.slice A1 n1 c1) ∧ w'.cell? ⟨g8, 0, none⟩ = some (.bool s2) ∧ w'.cell? ⟨g8, 1, none⟩ = some (.slice A2 n2 c2) ∧ w'.cell? ⟨w3.heap.size, 0, none⟩ = some (.int .i64 h3) ∧ w'.cell? ⟨w3.heap.size, 1, none⟩ = some (.int .u64 l3) ∧ w'.cell? ⟨w4.heap.size, 0, none⟩ = some (.int .i64 h4) ∧ w'.cell? ⟨w4.heap.size, 1, none⟩ = some (.int .u64 l4) ∧ w'.cell? ⟨w5.heap.size, 0, none⟩ = some (.int .i64 h5) ∧ w'.cell? ⟨w5.heap.size, 1, none⟩ = some (.int .u64 l5) := fun w' h => by
      rw [hWW] at h
      have x7 := (X7.below h).two
      have x8 := (X8.below h).two
      have x3 := (S3.below h).two
      have x4 := (S4.below h).two
      have x5 := (S5.below h).two
      exact ⟨x7.2.1, x7.2.2.1, x8.2.1, x8.2.2.1, x3.2.1, x3.2.2.1, x4.2.1, x4.2.2.1, x5.2.1, x5.2.2.1⟩
    have HP := hide fun w' (h : Bel W w') => (hWW ▸ P0 : BV W 10 s1 A1 n1 c1 a).below h
    have HQ := hide fun w' (h : Bel W w') => (hWW ▸ Q0 : BV W 10 s2 A2 n2 c2 b).below h
    have HL := hide fun w' (h : Bel W w') => (hWW ▸ L0 : Below w.heap.size w W).trans (Below.mono h (hWW ▸ L0 : Below w.heap.size w W).size)
    replace HW := hide HW
    replace T3 := hide T3
    replace T4 := hide T4
    replace T5 := hide T5
    have HOf := hide (fun w => Of_any x w hx1 hx2)
    have HW1 := hide (fun w => WOf_any x w hx1 hx2)
    have HAl := hide alive1_any
    rw [← hWW]
    clear hX7 hX8 hP hQ hk X7 X8 P0 Q0 S3 S4 S5 q3 q4 q5 q6 k3 k4 k5 K3 K4 K5 L0 HAd HSu HNe H4 HA HB ha hb hWW
    go_region_held3 (fun w' => w'.cell? ⟨g7, 0, none⟩ = some (.bool s1) ∧ w'.cell? ⟨g7, 1, none⟩ = some (.slice A1 n1 c1) ∧ w'.cell? ⟨g8, 0, none⟩ = some (.bool s2) ∧ w'.cell? ⟨g8, 1, none⟩ = some (.slice A2 n2 c2) ∧ w'.cell? ⟨w3.heap.size, 0, none⟩ = some (.int .i64 h3) ∧ w'.cell? ⟨w3.heap.size, 1, none⟩ = some (.int .u64 l3) ∧ w'.cell? ⟨w4.heap.size, 0, none⟩ = some (.int .i64 h4) ∧ w'.cell? ⟨w4.heap.size, 1, none⟩ = some (.int .u64 l4) ∧ w'.cell? ⟨w5.heap.size, 0, none⟩ = some (.int .i64 h5) ∧ w'.cell? ⟨w5.heap.size, 1, none⟩ = some (.int .u64 l5))
      ((refine HW.out _ ?_; repeat (first | assumption | exact Bel.refl _ | refine Bel.drew ?_)))
      (first
      | (go_at_call_of 12 (Value.agg #[.int .i64 h3, .int .u64 (l3 : Int)]); refine (Told_any 11 (by omega) h3 l3 o3 (a + b) _ _ _ _ _ T3.out hBs.out).mono ?_; rintro e v2 ⟨rfl, hb⟩; have jv2 : Bel W v2 := Bel.trans (by repeat (first | assumption | exact Bel.refl _ | refine Bel.drew ?_)) hb; clear hb hBs)
      | (go_at_call_of 12 (Value.agg #[.int .i64 h4, .int .u64 (l4 : Int)]); refine (Told_any 11 (by omega) h4 l4 o4 (a - b) _ _ _ _ _ T4.out hBd.out).mono ?_; rintro e v4 ⟨rfl, hb⟩; have jv4 : Bel W v4 := Bel.trans (by repeat (first | assumption | exact Bel.refl _ | refine Bel.drew ?_)) hb; clear hb hBd)
      | (go_at_call_of 12 (Value.agg #[.int .i64 h5, .int .u64 (l5 : Int)]); refine (Told_any 10 (by omega) h5 l5 o5 (-a) _ _ _ _ _ T5.out hBn.out).mono ?_; rintro e v6 ⟨rfl, hb⟩; have jv6 : Bel W v6 := Bel.trans (by repeat (first | assumption | exact Bel.refl _ | refine Bel.drew ?_)) hb; clear hb hBn)
      | (go_at_call 12; refine (Told_fit 5 (by omega) _ _ x _ _ _ _ _ hNx.out hBx.out).mono ?_; rintro e v9 ⟨rfl, hb⟩; have jv9 : Bel W v9 := Bel.trans (by repeat (first | assumption | exact Bel.refl _ | refine Bel.drew ?_)) hb; clear hb hBx hNx)
      | (go_at_call 13; refine (Add_any 10 (by omega) _ _ _ _ _ _ _ _ a b _ (HP.out _ (by repeat (first | assumption | exact Bel.refl _ | refine Bel.drew ?_))) (HQ.out _ (by repeat (first | assumption | exact Bel.refl _ | refine Bel.drew ?_)))).mono ?_; rintro e v1 ⟨t1, B1, m1, d1, rfl, hB, hb⟩; have jv1 : Bel W v1 := Bel.trans (by repeat (first | assumption | exact Bel.refl _ | refine Bel.drew ?_)) hb; have hBs := hide hB; clear hb hB)
      | (go_at_call 14; refine (Sub_any 10 (by omega) _ _ _ _ _ _ _ _ a b _ (HP.out _ (by repeat (first | assumption | exact Bel.refl _ | refine Bel.drew ?_))) (HQ.out _ (by repeat (first | assumption | exact Bel.refl _ | refine Bel.drew ?_)))).mono ?_; rintro e v3 ⟨t2, B2, m2, d2, rfl, hB, hb⟩; have jv3 : Bel W v3 := Bel.trans (by repeat (first | assumption | exact Bel.refl _ | refine Bel.drew ?_)) hb; have hBd := hide hB; clear hb hB)
      | (go_at_call 15; refine (Neg_any 10 _ _ _ _ a _ (HP.out _ (by repeat (first | assumption | exact Bel.refl _ | refine Bel.drew ?_)))).mono ?_; rintro e v5 ⟨t3, B3, m3, d3, rfl, hB, hb⟩; have jv5 : Bel W v5 := Bel.trans (by repeat (first | assumption | exact Bel.refl _ | refine Bel.drew ?_)) hb; have hBn := hide hB; clear hb hB)
      | (go_at_call 17; refine (HOf.out _).mono ?_; rintro e v8 ⟨t4, B4, m4, d4, rfl, hB, hb⟩; have jv8 : Bel W v8 := Bel.trans (by repeat (first | assumption | exact Bel.refl _ | refine Bel.drew ?_)) hb; have hBx := hide hB; clear hb hB)
      | (go_at_call 16; refine (HW1.out _).mono ?_; rintro e v7 ⟨h6, l6, rfl, hN, hb⟩; have jv7 : Bel W v7 := Bel.trans (by repeat (first | assumption | exact Bel.refl _ | refine Bel.drew ?_)) hb; have hNx := hide hN; clear hb hN)
      | (go_at_call 18; refine (HAl.out _).mono ?_; rintro e v10 ⟨rfl, hb⟩; have jv10 : Bel W v10 := Bel.trans (by repeat (first | assumption | exact Bel.refl _ | refine Bel.drew ?_)) hb; clear hb)
      | fail)
    have hfin := HL.out _ jv10
    go_wp2_with fail
    go_ret
    exact ⟨rfl, hfin⟩
end Go.Proofs.Ytoaaecggfaaplaa
