/-
QuotSmall's walk. No statement is proved here.
-/
import Derived.Test.YtehkccogbgjcaaaQs4
import Derived.Test.YtehkccogbgjcaaaQs6
import Derived.Test.YtehkccogbgjcaaaQuo3
namespace Go.Proofs.Ytehkccogbgjcaaa
open Go.RowKit

def Q3 (w : World) (g1 g2 g3 : Nat) (l1 l2 l3 : List Value) (wr : World) : Prop := Bx wr g1 l1 ∧ Bx wr g2 l2 ∧ Bx wr g3 l3 ∧ Below w.heap.size w wr
theorem Q3.below {w w1 w2 : World} {g1 g2 g3 : Nat} {l1 l2 l3 : List Value} (h : Q3 w g1 g2 g3 l1 l2 l3 w1) (hb : Below w1.heap.size w1 w2) : Q3 w g1 g2 g3 l1 l2 l3 w2 := ⟨h.1.below hb, h.2.1.below hb, h.2.2.1.below hb, h.2.2.2.trans (hb.mono h.2.2.2.size)⟩
theorem floor_range {a b : Int} (ha : -9223372036854775808 ≤ a ∧ a ≤ 9223372036854775807) (hb : b ≠ 0) (hr : ¬ (a = -9223372036854775808 ∧ b = -1)) : -9223372036854775808 ≤ Int.fdiv a b ∧ Int.fdiv a b ≤ 9223372036854775807 := by
  have h1 := Int.mul_tdiv_add_tmod a b
  have h2 := tmod_small (a := a) hb
  have h3 : (a.tdiv b).natAbs = a.natAbs / b.natAbs := Int.natAbs_tdiv a b
  have hq : -9223372036854775808 ≤ a.tdiv b ∧ a.tdiv b ≤ 9223372036854775807 ∧ (a.tmod b ≠ 0 → -4611686018427387904 ≤ a.tdiv b) := by
    by_cases b1 : b.natAbs = 1
    · rcases (show b = 1 ∨ b = -1 by omega) with rfl | rfl
      · rw [Int.tdiv_one]
        refine ⟨by omega, by omega, fun h => ?_⟩
        omega
      · rw [Int.tdiv_neg, Int.tdiv_one]
        refine ⟨by omega, by omega, fun h => ?_⟩
        omega
    · have h5 : a.natAbs / b.natAbs ≤ a.natAbs / 2 := Nat.div_le_div_left (by omega) (by omega)
      omega
  obtain ⟨f1, f2, f3⟩ := floor_t (a := a) (b := b) hb
  by_cases k : a.tmod b = 0
  · rw [← f1 k]; exact ⟨hq.1, hq.2.1⟩
  · by_cases e : decide (a.tmod b < 0) = decide (b < 0)
    · rw [← f2 k e]; exact ⟨hq.1, hq.2.1⟩
    · rw [← f3 k e]; have := hq.2.2 k; omega
theorem near_range {a b : Int} (ha : -9223372036854775808 ≤ a ∧ a ≤ 9223372036854775807) (hb : b ≠ 0) (hr : ¬ (a = -9223372036854775808 ∧ b = -1)) : -9223372036854775808 ≤ Int.fdiv (a + a + b) (b + b) ∧ Int.fdiv (a + a + b) (b + b) ≤ 9223372036854775807 := by
  have hl := floor_left (a := a) (b := b) hb
  have hn := near_floor (a := a) (b := b) rfl hl
  have hi := fdiv_in ha hb
  have hf := floor_range ha hb hr
  rw [hn]
  split
  · have := hi (by omega); omega
  · exact hf
theorem toldB_yes {x : Int} (h : -9223372036854775808 ≤ x ∧ x ≤ 9223372036854775807) : toldB x true x true = true := by
  unfold toldB
  rw [if_pos ⟨rfl, by omega, by omega⟩, cmpZ_eq rfl]
  rfl
theorem toldB_over : toldB 0 false 9223372036854775808 true = true := by decide
theorem Floor_told (a b : Int) (ha : -9223372036854775808 ≤ a ∧ a ≤ 9223372036854775807) (hb1 : -9223372036854775808 ≤ b ∧ b ≤ 9223372036854775807) (hb : b ≠ 0) :
    ∃ f one, (∀ w, Calls Try.prog 12 #[.int .i64 a, .int .i64 b] w (Pair w f one)) ∧ toldB f one (Int.fdiv a b) true = true ∧ -9223372036854775808 ≤ f ∧ f ≤ 9223372036854775807 := by
  by_cases hr : a = -9223372036854775808 ∧ b = -1
  · obtain ⟨rfl, rfl⟩ := hr
    exact ⟨0, false, fun w => QFloor_run w, by decide, by decide, by decide⟩
  · have h := floor_range ha hb hr
    exact ⟨_, true, fun w => QFloor_any a b w ha hb1 hb hr, toldB_yes h, h.1, h.2⟩
theorem Near_told (a b : Int) (ha : -9223372036854775808 ≤ a ∧ a ≤ 9223372036854775807) (hb1 : -9223372036854775808 ≤ b ∧ b ≤ 9223372036854775807) (hb : b ≠ 0) :
    ∃ f one, (∀ w, Calls Try.prog 14 #[.int .i64 a, .int .i64 b] w (Pair w f one)) ∧ toldB f one (Int.fdiv (a + a + b) (b + b)) true = true ∧ -9223372036854775808 ≤ f ∧ f ≤ 9223372036854775807 := by
  by_cases hr : a = -9223372036854775808 ∧ b = -1
  · obtain ⟨rfl, rfl⟩ := hr
    exact ⟨0, false, fun w => QNear_run w, by decide, by decide, by decide⟩
  · have h := near_range ha hb hr
    exact ⟨_, true, fun w => QNear_any a b w ha hb1 hb hr, toldB_yes h, h.1, h.2⟩
set_option maxHeartbeats 4000000 in
theorem QuotSmall_walk (a b : Int) (w : World) (ha : -9223372036854775808 ≤ a ∧ a ≤ 9223372036854775807) (hb : -9223372036854775808 ≤ b ∧ b ≤ 9223372036854775807) :
    Calls Try.prog 3 #[.int .i64 a, .int .i64 b] w (Says w (.bool true)) := by
  have HA := hide alive02_any
  have HB := hide (Below.refl w.heap.size w)
  have HO := hide (fun w => Of_any a w ha.1 ha.2)
  have HT := hide (fun x is s A n c z has w (h : BV w 18 s A n c z) (hx : -9223372036854775808 ≤ x ∧ x ≤ 9223372036854775807) => told_any 18 (by omega) (by omega) x is s A n c z has w h hx)
  by_cases h0 : b = 0
  · subst h0
    have HF := hide (fun w => QFloor_zero a w)
    have HM := hide (fun w => QMod_zero a w)
    have HN := hide (fun w => QNear_zero a w)
    have HRF := hide (fun s A n c w (_ : BV w 5 s A n c a) => RFloor_no s A n c w)
    have HRN := hide (fun s A n c w (_ : BV w 5 s A n c a) => RNear_no s A n c w)
    have HRL := hide (fun s A n c w (_ : BV w 5 s A n c a) => RLeft_no s A n c w)
    have TF := hide (show toldB 0 false 0 false = true by decide)
    have TFi := hide (show (-9223372036854775808 : Int) ≤ 0 ∧ (0 : Int) ≤ 9223372036854775807 by decide)
    have TM := TF
    have TN := TF
    have TMi := TFi
    have TNi := TFi
    clear ha hb
    go_enter Try.func3, Try.ntmps3
    go_wp2_with fail
    refine (HO.out _).mono ?_
    rintro e w1 ⟨s1, A1, n1, c1, rfl, hB1, hb1⟩
    have V1 := hide (hB1.alloc2 (.cells #[.bool s1, .slice A1 n1 c1] 24))
    have X1 := hide (Bx.at (w := w1) (g := w1.heap.size) [.bool s1, .slice A1 n1 c1] 24 rfl)
    have L1 := hide ((HB.out.trans hb1).alloc (HB.out.trans hb1).size (.cells #[.bool s1, .slice A1 n1 c1] 24))
    clear hB1 hb1
    go_wp2_with fail
    refine (HF.out _).mono ?_
    rintro e w' ⟨rfl, rfl⟩
    go_wp2_with fail
    refine (HM.out _).mono ?_
    rintro e w' ⟨rfl, rfl⟩
    go_wp2_with fail
    refine (HN.out _).mono ?_
    rintro e w' ⟨rfl, rfl⟩
    go_wp2_with fail
    refine (HRF.out _ _ _ _ _ V1.out).mono ?_
    rintro e w2 ⟨s2, A2, n2, c2, rfl, hB2, hb2⟩
    have V2 := hide (hB2.alloc2 (.cells #[.bool s2, .slice A2 n2 c2] 24))
    have X2 := hide (Bx.at (w := w2) (g := w2.heap.size) [.bool s2, .slice A2 n2 c2] 24 rfl)
    have V1' := hide ((V1.out.below hb2).alloc2 (.cells #[.bool s2, .slice A2 n2 c2] 24))
    have X1' := hide ((X1.out.below hb2).alloc (.cells #[.bool s2, .slice A2 n2 c2] 24))
    have L2 := hide ((L1.out.trans (hb2.mono L1.out.size)).alloc (L1.out.trans (hb2.mono L1.out.size)).size (.cells #[.bool s2, .slice A2 n2 c2] 24))
    obtain ⟨_, x0, x1, _, _⟩ := X1'.out.two
    clear hB2 hb2 V1 X1 L1
    go_wp2_with fail
    refine (HRN.out _ _ _ _ _ V1'.out).mono ?_
    rintro e w3 ⟨s3, A3, n3, c3, rfl, hB3, hb3⟩
    have K3 := hide (show Q3 w w1.heap.size w2.heap.size w3.heap.size [.bool s1, .slice A1 n1 c1] [.bool s2, .slice A2 n2 c2] [.bool s3, .slice A3 n3 c3] (w3.alloc (.cells #[.bool s3, .slice A3 n3 c3] 24)) from
      ⟨(X1'.out.below hb3).alloc _, (X2.out.below hb3).alloc _, Bx.at [.bool s3, .slice A3 n3 c3] 24 rfl, (L2.out.trans (hb3.mono L2.out.size)).alloc (L2.out.trans (hb3.mono L2.out.size)).size _⟩)
    have V1 := hide ((V1'.out.below hb3).alloc2 (.cells #[.bool s3, .slice A3 n3 c3] 24))
    have V2' := hide ((V2.out.below hb3).alloc2 (.cells #[.bool s3, .slice A3 n3 c3] 24))
    have V3 := hide (hB3.alloc2 (.cells #[.bool s3, .slice A3 n3 c3] 24))
    clear hB3 hb3 V1' X1' X2 V2 L2 x0 x1
    obtain ⟨_, x0, x1, _, _⟩ := K3.out.1.two
    obtain ⟨_, y0, y1, _, _⟩ := K3.out.2.1.two
    obtain ⟨_, z0, z1, _, _⟩ := K3.out.2.2.1.two
    go_wp2_with fail
    refine (HT.out _ _ _ _ _ _ _ _ _ (V2'.out.more (show 0 ≤ 18 by omega)) TFi.out).mono ?_
    rw [TF.out]
    rintro e w4 ⟨rfl, hb4⟩
    have K4 := hide (K3.out.below hb4)
    have V1a := hide (V1.out.below hb4)
    have V3a := hide (V3.out.below hb4)
    clear hb4 V1 V2' V3 x0 x1 y0 y1 z0 z1
    obtain ⟨_, x0, x1, _, _⟩ := K4.out.1.two
    obtain ⟨_, y0, y1, _, _⟩ := K4.out.2.1.two
    obtain ⟨_, z0, z1, _, _⟩ := K4.out.2.2.1.two
    go_wp2_with fail
    refine (HRL.out _ _ _ _ _ V1a.out).mono ?_
    rintro e w5 ⟨s5, A5, n5, c5, rfl, hB5, hb5⟩
    have K5 := hide (K4.out.below hb5)
    have V3b := hide (V3a.out.below hb5)
    have V5 := hide hB5
    clear hb5 hB5 V1a V3a x0 x1 y0 y1 z0 z1
    obtain ⟨_, x0, x1, _, _⟩ := K5.out.1.two
    obtain ⟨_, y0, y1, _, _⟩ := K5.out.2.1.two
    obtain ⟨_, z0, z1, _, _⟩ := K5.out.2.2.1.two
    go_wp2_with fail
    refine (HT.out _ _ _ _ _ _ _ _ _ (V5.out.more (show 0 ≤ 18 by omega)) TMi.out).mono ?_
    rw [TM.out]
    rintro e w6 ⟨rfl, hb6⟩
    have K6 := hide (K5.out.below hb6)
    have V3c := hide (V3b.out.below hb6)
    clear hb6 V3b V5 x0 x1 y0 y1 z0 z1
    obtain ⟨_, x0, x1, _, _⟩ := K6.out.1.two
    obtain ⟨_, y0, y1, _, _⟩ := K6.out.2.1.two
    obtain ⟨_, z0, z1, _, _⟩ := K6.out.2.2.1.two
    go_wp2_with fail
    refine (HT.out _ _ _ _ _ _ _ _ _ (V3c.out.more (show 0 ≤ 18 by omega)) TNi.out).mono ?_
    rw [TN.out]
    rintro e w7 ⟨rfl, hb7⟩
    have K7 := hide (K6.out.below hb7)
    clear hb7 V3c x0 x1 y0 y1 z0 z1
    go_wp2_with fail
    refine (HA.out _).mono ?_
    rintro e w8 ⟨rfl, rfl⟩
    go_wp2_with fail
    go_ret
    exact ⟨rfl, K7.out.2.2.2⟩
  · obtain ⟨f, one, hF, tF, rF⟩ := Floor_told a b ha hb h0
    obtain ⟨nn, three, hN, tN, rN⟩ := Near_told a b ha hb h0
    have HF := hide hF
    have HN := hide hN
    have HM := hide (fun w => QMod_any a b w hb h0)
    have HRF := hide (fun s A n c w (h : BV w 5 s A n c a) => RFloor_yes 5 (by omega) (by omega) s A n c a b w h hb h0)
    have HRN := hide (fun s A n c w (h : BV w 5 s A n c a) => RNear_yes 5 (by omega) (by omega) s A n c a b w h hb h0)
    have HRL := hide (fun s A n c w (h : BV w 5 s A n c a) => RLeft_yes 5 (by omega) (by omega) s A n c a b w h hb h0)
    have hl := floor_left (a := a) (b := b) h0
    have rM : -9223372036854775808 ≤ a - Int.fdiv a b * b ∧ a - Int.fdiv a b * b ≤ 9223372036854775807 := by omega
    have tM := toldB_yes rM
    generalize a - Int.fdiv a b * b = zl at *
    generalize Int.fdiv a b = zq at *
    generalize Int.fdiv (a + a + b) (b + b) = zn at *
    have TF := hide tF
    have TN := hide tN
    have TM := hide tM
    have TFi := hide rF
    have TNi := hide rN
    have TMi := hide rM
    clear hF hN tF tN tM rF rN rM hl ha hb h0
    go_enter Try.func3, Try.ntmps3
    go_wp2_with fail
    refine (HO.out _).mono ?_
    rintro e w1 ⟨s1, A1, n1, c1, rfl, hB1, hb1⟩
    have V1 := hide (hB1.alloc2 (.cells #[.bool s1, .slice A1 n1 c1] 24))
    have X1 := hide (Bx.at (w := w1) (g := w1.heap.size) [.bool s1, .slice A1 n1 c1] 24 rfl)
    have L1 := hide ((HB.out.trans hb1).alloc (HB.out.trans hb1).size (.cells #[.bool s1, .slice A1 n1 c1] 24))
    clear hB1 hb1
    go_wp2_with fail
    refine (HF.out _).mono ?_
    rintro e w' ⟨rfl, rfl⟩
    go_wp2_with fail
    refine (HM.out _).mono ?_
    rintro e w' ⟨rfl, rfl⟩
    go_wp2_with fail
    refine (HN.out _).mono ?_
    rintro e w' ⟨rfl, rfl⟩
    go_wp2_with fail
    refine (HRF.out _ _ _ _ _ V1.out).mono ?_
    rintro e w2 ⟨s2, A2, n2, c2, rfl, hB2, hb2⟩
    have V2 := hide (hB2.alloc2 (.cells #[.bool s2, .slice A2 n2 c2] 24))
    have X2 := hide (Bx.at (w := w2) (g := w2.heap.size) [.bool s2, .slice A2 n2 c2] 24 rfl)
    have V1' := hide ((V1.out.below hb2).alloc2 (.cells #[.bool s2, .slice A2 n2 c2] 24))
    have X1' := hide ((X1.out.below hb2).alloc (.cells #[.bool s2, .slice A2 n2 c2] 24))
    have L2 := hide ((L1.out.trans (hb2.mono L1.out.size)).alloc (L1.out.trans (hb2.mono L1.out.size)).size (.cells #[.bool s2, .slice A2 n2 c2] 24))
    obtain ⟨_, x0, x1, _, _⟩ := X1'.out.two
    clear hB2 hb2 V1 X1 L1
    go_wp2_with fail
    refine (HRN.out _ _ _ _ _ V1'.out).mono ?_
    rintro e w3 ⟨s3, A3, n3, c3, rfl, hB3, hb3⟩
    have K3 := hide (show Q3 w w1.heap.size w2.heap.size w3.heap.size [.bool s1, .slice A1 n1 c1] [.bool s2, .slice A2 n2 c2] [.bool s3, .slice A3 n3 c3] (w3.alloc (.cells #[.bool s3, .slice A3 n3 c3] 24)) from
      ⟨(X1'.out.below hb3).alloc _, (X2.out.below hb3).alloc _, Bx.at [.bool s3, .slice A3 n3 c3] 24 rfl, (L2.out.trans (hb3.mono L2.out.size)).alloc (L2.out.trans (hb3.mono L2.out.size)).size _⟩)
    have V1 := hide ((V1'.out.below hb3).alloc2 (.cells #[.bool s3, .slice A3 n3 c3] 24))
    have V2' := hide ((V2.out.below hb3).alloc2 (.cells #[.bool s3, .slice A3 n3 c3] 24))
    have V3 := hide (hB3.alloc2 (.cells #[.bool s3, .slice A3 n3 c3] 24))
    clear hB3 hb3 V1' X1' X2 V2 L2 x0 x1
    obtain ⟨_, x0, x1, _, _⟩ := K3.out.1.two
    obtain ⟨_, y0, y1, _, _⟩ := K3.out.2.1.two
    obtain ⟨_, z0, z1, _, _⟩ := K3.out.2.2.1.two
    go_wp2_with fail
    refine (HT.out _ _ _ _ _ _ _ _ _ (V2'.out.more (show 11 ≤ 18 by omega)) TFi.out).mono ?_
    rw [TF.out]
    rintro e w4 ⟨rfl, hb4⟩
    have K4 := hide (K3.out.below hb4)
    have V1a := hide (V1.out.below hb4)
    have V3a := hide (V3.out.below hb4)
    clear hb4 V1 V2' V3 x0 x1 y0 y1 z0 z1
    obtain ⟨_, x0, x1, _, _⟩ := K4.out.1.two
    obtain ⟨_, y0, y1, _, _⟩ := K4.out.2.1.two
    obtain ⟨_, z0, z1, _, _⟩ := K4.out.2.2.1.two
    go_wp2_with fail
    refine (HRL.out _ _ _ _ _ V1a.out).mono ?_
    rintro e w5 ⟨s5, A5, n5, c5, rfl, hB5, hb5⟩
    have K5 := hide (K4.out.below hb5)
    have V3b := hide (V3a.out.below hb5)
    have V5 := hide hB5
    clear hb5 hB5 V1a V3a x0 x1 y0 y1 z0 z1
    obtain ⟨_, x0, x1, _, _⟩ := K5.out.1.two
    obtain ⟨_, y0, y1, _, _⟩ := K5.out.2.1.two
    obtain ⟨_, z0, z1, _, _⟩ := K5.out.2.2.1.two
    go_wp2_with fail
    refine (HT.out _ _ _ _ _ _ _ _ _ (V5.out.more (show 18 ≤ 18 by omega)) TMi.out).mono ?_
    rw [TM.out]
    rintro e w6 ⟨rfl, hb6⟩
    have K6 := hide (K5.out.below hb6)
    have V3c := hide (V3b.out.below hb6)
    clear hb6 V3b V5 x0 x1 y0 y1 z0 z1
    obtain ⟨_, x0, x1, _, _⟩ := K6.out.1.two
    obtain ⟨_, y0, y1, _, _⟩ := K6.out.2.1.two
    obtain ⟨_, z0, z1, _, _⟩ := K6.out.2.2.1.two
    go_wp2_with fail
    refine (HT.out _ _ _ _ _ _ _ _ _ (V3c.out.more (show 13 ≤ 18 by omega)) TNi.out).mono ?_
    rw [TN.out]
    rintro e w7 ⟨rfl, hb7⟩
    have K7 := hide (K6.out.below hb7)
    clear hb7 V3c x0 x1 y0 y1 z0 z1
    go_wp2_with fail
    refine (HA.out _).mono ?_
    rintro e w8 ⟨rfl, rfl⟩
    go_wp2_with fail
    go_ret
    exact ⟨rfl, K7.out.2.2.2⟩
end Go.Proofs.Ytehkccogbgjcaaa
