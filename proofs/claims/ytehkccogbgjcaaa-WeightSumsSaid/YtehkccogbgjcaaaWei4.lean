/-
WeightSums' walk. No statement is proved here.
-/
import Derived.Test.YtehkccogbgjcaaaWei3
namespace Go.Proofs.Ytehkccogbgjcaaa
open Go.RowKit

def WSK (w : World) (p q r s : Int) (g g' : Nat) (wr : World) : Prop := Bx wr g [.int .i64 p, .int .i64 q, .int .i64 r, .int .i64 s] ∧ Bx wr g' [.int .i64 s, .int .i64 r, .int .i64 q, .int .i64 p] ∧ Below w.heap.size w wr
theorem WSK.drewN {w : World} {p q r s : Int} {g g' : Nat} {wr : World} (h : WSK w p q r s g g' wr) (n : Nat) : WSK w p q r s g g' (wr.drewN n) := ⟨h.1.drewN n, h.2.1.drewN n, bdrewN h.2.2 n⟩

set_option maxRecDepth 100000 in
set_option maxHeartbeats 8000000 in
theorem WeightSums_walk (f t v : Int) (w : World) (ht : isI64 t) (hv : 0 ≤ v ∧ v ≤ 255) : Calls Try.prog 4 #[.int .i64 f, .int .i64 t, .int .u8 v] w (Says w (.bool true)) := by
  have HA := hide alive27_any
  have HB := hide (Below.refl w.heap.size w)
  by_cases l : 0 ≤ f ∧ f ≤ 65536
  · by_cases k : 0 ≤ t ∧ t ≤ 256
    · skip
      have H1 := hide (fun w => WLinear_yes f l.1 l.2 w)
      have e1 : wrap64 (65536 - f + f) = 65536 := by rw [Int.sub_add_cancel]; exact IntWalk.wrap64_in _ (by decide)
      have l1 : ¬ 65536 - f < 0 := by omega
      have l2 : ¬ f < 0 := by omega
      obtain ⟨a, ha⟩ : ∃ z, 65536 - f = z := ⟨_, rfl⟩
      rw [ha] at H1 e1 l1
      clear ha
      have H2 := hide (fun w => WCubic_yes t k.1 k.2 w)
      have H3 := hide (fun w => WCubic_yes (256 - t) (by omega) (by omega) w)
      rw [show 256 - (256 - t) = t by omega] at H3
      have e2 : wrap64 (256 - t) = 256 - t := IntWalk.wrap64_in _ (by omega)
      have b1 := outer_bound k.1 k.2
      have b2 := inner_bound k.1 k.2
      have b3 := inner_bound (t := 256 - t) (by omega) (by omega)
      have b4 := outer_bound (t := 256 - t) (by omega) (by omega)
      have hs := weights_all t
      generalize outerZ t = p at *
      generalize innerZ t = q at *
      obtain ⟨t2, ht2⟩ : ∃ z, 256 - t = z := ⟨_, rfl⟩
      rw [ht2] at H3 e2
      have e3 : wrap64 (256 - t) = t2 := by rw [ht2]; exact e2
      rw [ht2] at H2 hs b3 b4
      generalize innerZ t2 = r at *
      generalize outerZ t2 = s at *
      have HM := hide (fun w g g' c c' (hx : IY w (some ⟨g, 0, none⟩) 4 c [p, q, r, s]) (hy : BY w (some ⟨g', 0, none⟩) 4 c' [v, v, v, v]) => by
        have := Mix_any _ _ _ _ _ _ _ _ w hx hy
        rw [show min 4 4 = 4 from rfl, mix4 (by omega) (by omega) (by omega) (by omega) hs hv] at this
        exact this)
      have HY := hide (fun w => by
        have := WByte_any (33554432 * v) 33554432 (by unfold isI64; omega) (by unfold isI64; decide) w
        rw [byte_scale hv] at this
        exact this)
      have HO := hide (fun (w : World) g (h : Bx w g [.int .i64 p, .int .i64 q, .int .i64 r, .int .i64 s]) => IY.own4 h (by unfold isI64; omega))
      have HO2 := hide (fun (w : World) g (h : Bx w g [.int .u8 v, .int .u8 v, .int .u8 v, .int .u8 v]) => BY.own4 h hv)
      obtain ⟨u1, u2, s1, s2, s3⟩ : ∃ u1 u2, wrap64 (p + q) = u1 ∧ wrap64 (u1 + r) = u2 ∧ wrap64 (u2 + s) = 33554432 := by
        refine ⟨p + q, p + q + r, IntWalk.wrap64_in _ (by omega), IntWalk.wrap64_in _ (by omega), by rw [hs]; exact IntWalk.wrap64_in _ (by decide)⟩
      clear b1 b2 b3 b4 hs ht2 e2
      clear l k ht hv
      go_enter Try.func4, Try.ntmps4
      go_wp2_with fail
      refine (H1.out _).mono ?_
      rintro e w1 ⟨rfl, hb1⟩
      have HB1 := hide (HB.out.trans (hb1.mono (Nat.le_refl _)))
      clear hb1
      go_wp2_with fail
      refine (H2.out _).mono ?_
      rintro e w2 ⟨rfl, hb2⟩
      have HB2 := hide ((HB1.out.alloc HB1.out.size _).trans (hb2.mono (by have := HB1.out.size; simp; omega)))
      clear hb2
      go_wp2_with fail
      refine (H3.out _).mono ?_
      rintro e w3 ⟨rfl, hb3⟩
      have HB3 := hide ((HB2.out.alloc HB2.out.size _).trans (hb3.mono (by have := HB2.out.size; simp; omega)))
      have X2 := (Bx.at (w := w2) (g := w2.heap.size) [.int .i64 p, .int .i64 q, .int .i64 r, .int .i64 s] 38 rfl).below hb3
      have X3 := Bx.at (w := w3) (g := w3.heap.size) [.int .i64 s, .int .i64 r, .int .i64 q, .int .i64 p] 38 rfl
      have KS := hide (show WSK w p q r s w2.heap.size w3.heap.size (w3.alloc (.cells #[.int .i64 s, .int .i64 r, .int .i64 q, .int .i64 p] 38)) from ⟨X2.alloc _, X3, HB3.out.alloc HB3.out.size _⟩)
      obtain ⟨_, c0, c1, c2, c3, _, _, _, _⟩ := X2.four
      have z2 : w2.heap.size < w3.heap.size := by have := hb3.size; simp at this; omega
      clear hb3 X2 X3
      go_wp2_with fail
      go_loopw [13] (fun i wr => ∃ k : Nat, k ≤ 4 ∧ i = .int .i64 k ∧ WSK w p q r s w2.heap.size w3.heap.size wr) (fun i _ => 4 - (intOf i).toNat)
      case atStart => exact ⟨0, by omega, rfl, KS.out⟩
      case round =>
        clear KS c0 c1 c2 c3
        obtain ⟨k, hk, rfl, hK⟩ := hrel
        have HK := hide hK
        obtain ⟨x0, c0, c1, c2, c3, _, _, _, _⟩ := hK.1.four
        obtain ⟨x1, d0, d1, d2, d3, _, _, _, _⟩ := hK.2.1.four
        clear hK
        rcases (show k = 0 ∨ k = 1 ∨ k = 2 ∨ k = 3 ∨ k = 4 by omega) with rfl | rfl | rfl | rfl | rfl
        · go_wp2_with fail
          refine wp_region_quiet_lit (by kernel_rfl) (by kernel_rfl) ?_
          iterate 8 go_big_quiet_step (fail)
          refine wpQuiet_nil ?_
          intro _ hw'
          obtain ⟨nq, hw''⟩ := hw'
          subst hw''
          have HJ := hide (HK.out.drewN nq)
          go_wp2_with fail
          go_roundw
          case rel => exact ⟨1, by omega, rfl, HJ.out⟩
          case measure => simp [intOf]
        · go_wp2_with fail
          refine wp_region_quiet_lit (by kernel_rfl) (by kernel_rfl) ?_
          iterate 8 go_big_quiet_step (fail)
          refine wpQuiet_nil ?_
          intro _ hw'
          obtain ⟨nq, hw''⟩ := hw'
          subst hw''
          have HJ := hide (HK.out.drewN nq)
          go_wp2_with fail
          go_roundw
          case rel => exact ⟨2, by omega, rfl, HJ.out⟩
          case measure => simp [intOf]
        · go_wp2_with fail
          refine wp_region_quiet_lit (by kernel_rfl) (by kernel_rfl) ?_
          iterate 8 go_big_quiet_step (fail)
          refine wpQuiet_nil ?_
          intro _ hw'
          obtain ⟨nq, hw''⟩ := hw'
          subst hw''
          have HJ := hide (HK.out.drewN nq)
          go_wp2_with fail
          go_roundw
          case rel => exact ⟨3, by omega, rfl, HJ.out⟩
          case measure => simp [intOf]
        · go_wp2_with fail
          refine wp_region_quiet_lit (by kernel_rfl) (by kernel_rfl) ?_
          iterate 8 go_big_quiet_step (fail)
          refine wpQuiet_nil ?_
          intro _ hw'
          obtain ⟨nq, hw''⟩ := hw'
          subst hw''
          have HJ := hide (HK.out.drewN nq)
          go_wp2_with fail
          go_roundw
          case rel => exact ⟨4, by omega, rfl, HJ.out⟩
          case measure => simp [intOf]
        · go_wp2_with fail
          refine Calls.mono (HM.out _ _ _ _ _ (HO.out _ _ (HK.out.1.alloc _)) (HO2.out _ _ (Bx.at [.int .u8 v, .int .u8 v, .int .u8 v, .int .u8 v] _ rfl))) ?_
          rintro e w4 ⟨rfl, hb4⟩
          have HB4 := hide ((HK.out.2.2.alloc HK.out.2.2.size _).trans (hb4.mono (by have := HK.out.2.2.size; simp; omega)))
          clear hb4
          go_wp2_with fail
          refine (HY.out _).mono ?_
          rintro e w5 ⟨rfl, rfl⟩
          go_wp2_with fail
          refine (HA.out _).mono ?_
          rintro e w6 ⟨rfl, hb6⟩
          have HB6 := hide (HB4.out.trans (hb6.mono HB4.out.size))
          clear hb6
          go_wp2_with fail
          go_ret
          exact ⟨rfl, HB6.out⟩
    · skip
      have H1 := hide (fun w => WLinear_yes f l.1 l.2 w)
      have e1 : wrap64 (65536 - f + f) = 65536 := by rw [Int.sub_add_cancel]; exact IntWalk.wrap64_in _ (by decide)
      have l1 : ¬ 65536 - f < 0 := by omega
      have l2 : ¬ f < 0 := by omega
      obtain ⟨a, ha⟩ : ∃ z, 65536 - f = z := ⟨_, rfl⟩
      rw [ha] at H1 e1 l1
      clear ha
      have H2 := hide (fun w => WCubic_no t k w)
      have H3 := hide (fun w => WCubic_no (wrap64 (256 - t)) (by unfold isI64 at ht; unfold wrap64; omega) w)
      obtain ⟨t2, ht2⟩ : ∃ z, wrap64 (256 - t) = z := ⟨_, rfl⟩
      rw [ht2] at H3
      clear l k ht hv
      go_enter Try.func4, Try.ntmps4
      go_wp2_with fail
      refine (H1.out _).mono ?_
      rintro e w1 ⟨rfl, hb1⟩
      have HB1 := hide (HB.out.trans (hb1.mono (Nat.le_refl _)))
      clear hb1
      go_wp2_with fail
      refine (H2.out _).mono ?_
      rintro e w2 ⟨rfl, hb2⟩
      have HB2 := hide ((HB1.out.alloc HB1.out.size _).trans (hb2.mono (by have := HB1.out.size; simp; omega)))
      clear hb2
      go_wp2_with fail
      refine (H3.out _).mono ?_
      rintro e w3 ⟨rfl, hb3⟩
      have HB3 := hide ((HB2.out.alloc HB2.out.size _).trans (hb3.mono (by have := HB2.out.size; simp; omega)))
      clear hb3
      go_wp2_with fail
      refine (HA.out _).mono ?_
      rintro e w4 ⟨rfl, hb4⟩
      have HB4 := hide ((HB3.out.alloc HB3.out.size _).trans (hb4.mono (by have := HB3.out.size; simp; omega)))
      clear hb4
      go_wp2_with fail
      go_ret
      exact ⟨rfl, HB4.out⟩
  · by_cases k : 0 ≤ t ∧ t ≤ 256
    · skip
      have H1 := hide (fun w => WLinear_no f l w)
      have H2 := hide (fun w => WCubic_yes t k.1 k.2 w)
      have H3 := hide (fun w => WCubic_yes (256 - t) (by omega) (by omega) w)
      rw [show 256 - (256 - t) = t by omega] at H3
      have e2 : wrap64 (256 - t) = 256 - t := IntWalk.wrap64_in _ (by omega)
      have b1 := outer_bound k.1 k.2
      have b2 := inner_bound k.1 k.2
      have b3 := inner_bound (t := 256 - t) (by omega) (by omega)
      have b4 := outer_bound (t := 256 - t) (by omega) (by omega)
      have hs := weights_all t
      generalize outerZ t = p at *
      generalize innerZ t = q at *
      obtain ⟨t2, ht2⟩ : ∃ z, 256 - t = z := ⟨_, rfl⟩
      rw [ht2] at H3 e2
      have e3 : wrap64 (256 - t) = t2 := by rw [ht2]; exact e2
      rw [ht2] at H2 hs b3 b4
      generalize innerZ t2 = r at *
      generalize outerZ t2 = s at *
      have HM := hide (fun w g g' c c' (hx : IY w (some ⟨g, 0, none⟩) 4 c [p, q, r, s]) (hy : BY w (some ⟨g', 0, none⟩) 4 c' [v, v, v, v]) => by
        have := Mix_any _ _ _ _ _ _ _ _ w hx hy
        rw [show min 4 4 = 4 from rfl, mix4 (by omega) (by omega) (by omega) (by omega) hs hv] at this
        exact this)
      have HY := hide (fun w => by
        have := WByte_any (33554432 * v) 33554432 (by unfold isI64; omega) (by unfold isI64; decide) w
        rw [byte_scale hv] at this
        exact this)
      have HO := hide (fun (w : World) g (h : Bx w g [.int .i64 p, .int .i64 q, .int .i64 r, .int .i64 s]) => IY.own4 h (by unfold isI64; omega))
      have HO2 := hide (fun (w : World) g (h : Bx w g [.int .u8 v, .int .u8 v, .int .u8 v, .int .u8 v]) => BY.own4 h hv)
      obtain ⟨u1, u2, s1, s2, s3⟩ : ∃ u1 u2, wrap64 (p + q) = u1 ∧ wrap64 (u1 + r) = u2 ∧ wrap64 (u2 + s) = 33554432 := by
        refine ⟨p + q, p + q + r, IntWalk.wrap64_in _ (by omega), IntWalk.wrap64_in _ (by omega), by rw [hs]; exact IntWalk.wrap64_in _ (by decide)⟩
      clear b1 b2 b3 b4 hs ht2 e2
      clear l k ht hv
      go_enter Try.func4, Try.ntmps4
      go_wp2_with fail
      refine (H1.out _).mono ?_
      rintro e w1 ⟨rfl, hb1⟩
      have HB1 := hide (HB.out.trans (hb1.mono (Nat.le_refl _)))
      clear hb1
      go_wp2_with fail
      refine (H2.out _).mono ?_
      rintro e w2 ⟨rfl, hb2⟩
      have HB2 := hide ((HB1.out.alloc HB1.out.size _).trans (hb2.mono (by have := HB1.out.size; simp; omega)))
      clear hb2
      go_wp2_with fail
      refine (H3.out _).mono ?_
      rintro e w3 ⟨rfl, hb3⟩
      have HB3 := hide ((HB2.out.alloc HB2.out.size _).trans (hb3.mono (by have := HB2.out.size; simp; omega)))
      have X2 := (Bx.at (w := w2) (g := w2.heap.size) [.int .i64 p, .int .i64 q, .int .i64 r, .int .i64 s] 38 rfl).below hb3
      have X3 := Bx.at (w := w3) (g := w3.heap.size) [.int .i64 s, .int .i64 r, .int .i64 q, .int .i64 p] 38 rfl
      have KS := hide (show WSK w p q r s w2.heap.size w3.heap.size (w3.alloc (.cells #[.int .i64 s, .int .i64 r, .int .i64 q, .int .i64 p] 38)) from ⟨X2.alloc _, X3, HB3.out.alloc HB3.out.size _⟩)
      obtain ⟨_, c0, c1, c2, c3, _, _, _, _⟩ := X2.four
      have z2 : w2.heap.size < w3.heap.size := by have := hb3.size; simp at this; omega
      clear hb3 X2 X3
      go_wp2_with fail
      go_loopw [13] (fun i wr => ∃ k : Nat, k ≤ 4 ∧ i = .int .i64 k ∧ WSK w p q r s w2.heap.size w3.heap.size wr) (fun i _ => 4 - (intOf i).toNat)
      case atStart => exact ⟨0, by omega, rfl, KS.out⟩
      case round =>
        clear KS c0 c1 c2 c3
        obtain ⟨k, hk, rfl, hK⟩ := hrel
        have HK := hide hK
        obtain ⟨x0, c0, c1, c2, c3, _, _, _, _⟩ := hK.1.four
        obtain ⟨x1, d0, d1, d2, d3, _, _, _, _⟩ := hK.2.1.four
        clear hK
        rcases (show k = 0 ∨ k = 1 ∨ k = 2 ∨ k = 3 ∨ k = 4 by omega) with rfl | rfl | rfl | rfl | rfl
        · go_wp2_with fail
          refine wp_region_quiet_lit (by kernel_rfl) (by kernel_rfl) ?_
          iterate 8 go_big_quiet_step (fail)
          refine wpQuiet_nil ?_
          intro _ hw'
          obtain ⟨nq, hw''⟩ := hw'
          subst hw''
          have HJ := hide (HK.out.drewN nq)
          go_wp2_with fail
          go_roundw
          case rel => exact ⟨1, by omega, rfl, HJ.out⟩
          case measure => simp [intOf]
        · go_wp2_with fail
          refine wp_region_quiet_lit (by kernel_rfl) (by kernel_rfl) ?_
          iterate 8 go_big_quiet_step (fail)
          refine wpQuiet_nil ?_
          intro _ hw'
          obtain ⟨nq, hw''⟩ := hw'
          subst hw''
          have HJ := hide (HK.out.drewN nq)
          go_wp2_with fail
          go_roundw
          case rel => exact ⟨2, by omega, rfl, HJ.out⟩
          case measure => simp [intOf]
        · go_wp2_with fail
          refine wp_region_quiet_lit (by kernel_rfl) (by kernel_rfl) ?_
          iterate 8 go_big_quiet_step (fail)
          refine wpQuiet_nil ?_
          intro _ hw'
          obtain ⟨nq, hw''⟩ := hw'
          subst hw''
          have HJ := hide (HK.out.drewN nq)
          go_wp2_with fail
          go_roundw
          case rel => exact ⟨3, by omega, rfl, HJ.out⟩
          case measure => simp [intOf]
        · go_wp2_with fail
          refine wp_region_quiet_lit (by kernel_rfl) (by kernel_rfl) ?_
          iterate 8 go_big_quiet_step (fail)
          refine wpQuiet_nil ?_
          intro _ hw'
          obtain ⟨nq, hw''⟩ := hw'
          subst hw''
          have HJ := hide (HK.out.drewN nq)
          go_wp2_with fail
          go_roundw
          case rel => exact ⟨4, by omega, rfl, HJ.out⟩
          case measure => simp [intOf]
        · go_wp2_with fail
          refine Calls.mono (HM.out _ _ _ _ _ (HO.out _ _ (HK.out.1.alloc _)) (HO2.out _ _ (Bx.at [.int .u8 v, .int .u8 v, .int .u8 v, .int .u8 v] _ rfl))) ?_
          rintro e w4 ⟨rfl, hb4⟩
          have HB4 := hide ((HK.out.2.2.alloc HK.out.2.2.size _).trans (hb4.mono (by have := HK.out.2.2.size; simp; omega)))
          clear hb4
          go_wp2_with fail
          refine (HY.out _).mono ?_
          rintro e w5 ⟨rfl, rfl⟩
          go_wp2_with fail
          refine (HA.out _).mono ?_
          rintro e w6 ⟨rfl, hb6⟩
          have HB6 := hide (HB4.out.trans (hb6.mono HB4.out.size))
          clear hb6
          go_wp2_with fail
          go_ret
          exact ⟨rfl, HB6.out⟩
    · skip
      have H1 := hide (fun w => WLinear_no f l w)
      have H2 := hide (fun w => WCubic_no t k w)
      have H3 := hide (fun w => WCubic_no (wrap64 (256 - t)) (by unfold isI64 at ht; unfold wrap64; omega) w)
      obtain ⟨t2, ht2⟩ : ∃ z, wrap64 (256 - t) = z := ⟨_, rfl⟩
      rw [ht2] at H3
      clear l k ht hv
      go_enter Try.func4, Try.ntmps4
      go_wp2_with fail
      refine (H1.out _).mono ?_
      rintro e w1 ⟨rfl, hb1⟩
      have HB1 := hide (HB.out.trans (hb1.mono (Nat.le_refl _)))
      clear hb1
      go_wp2_with fail
      refine (H2.out _).mono ?_
      rintro e w2 ⟨rfl, hb2⟩
      have HB2 := hide ((HB1.out.alloc HB1.out.size _).trans (hb2.mono (by have := HB1.out.size; simp; omega)))
      clear hb2
      go_wp2_with fail
      refine (H3.out _).mono ?_
      rintro e w3 ⟨rfl, hb3⟩
      have HB3 := hide ((HB2.out.alloc HB2.out.size _).trans (hb3.mono (by have := HB2.out.size; simp; omega)))
      clear hb3
      go_wp2_with fail
      refine (HA.out _).mono ?_
      rintro e w4 ⟨rfl, hb4⟩
      have HB4 := hide ((HB3.out.alloc HB3.out.size _).trans (hb4.mono (by have := HB3.out.size; simp; omega)))
      clear hb4
      go_wp2_with fail
      go_ret
      exact ⟨rfl, HB4.out⟩
end Go.Proofs.Ytehkccogbgjcaaa
