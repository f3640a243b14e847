/-
WeightTells' walk. No statement is proved here.
-/
import Derived.Test.YtbogckpnajjlmaaWt0
import Derived.Test.YtbogckpnajjlmaaWt1
import Derived.Test.YtbogckpnajjlmaaAl27
import Derived.BigQuiet
import Derived.Deep.QuietTactic
namespace Go.Proofs.Ytbogckpnajjlmaa
open Go.RowKit

theorem eq_arr2 (a b : Int) (w : World) : (Op.equalIn 10000 50 (.agg #[.int .i64 a, .int .i64 b]) (.agg #[.int .i64 a, .int .i64 b])).run Try.prog w = .ok true w := by
  have u3 := Try.underlying2
  have a3 := Try.isAgg2
  have z3 := Try.sizeOf2
  rw [show (10000 : Nat) = 9999 + 1 from rfl, Op.equalIn]
  simp only [Sem.run_bind, run_underlying Try.underlying50, Result.andThen_ok]
  simp only [Std.Legacy.Range.forIn_eq_forIn_range', Std.Legacy.Range.size, Nat.sub_zero, Nat.add_sub_cancel, Nat.div_one, List.range'_succ, List.range'_zero, List.forIn_cons, List.forIn_nil]
  go_simp
theorem neq_arr2 (a b : Int) (w : World) : (binOp .neq 50 (.agg #[.int .i64 a, .int .i64 b]) (.agg #[.int .i64 a, .int .i64 b])).run Try.prog w = Result.ok (.bool false) w := by
  simp [go_sem]
  rw [eq_arr2]
  rfl
theorem eq_arr4 (a b c d : Int) (w : World) : (Op.equalIn 10000 53 (.agg #[.int .i64 a, .int .i64 b, .int .i64 c, .int .i64 d]) (.agg #[.int .i64 a, .int .i64 b, .int .i64 c, .int .i64 d])).run Try.prog w = .ok true w := by
  have u3 := Try.underlying2
  have a3 := Try.isAgg2
  have z3 := Try.sizeOf2
  rw [show (10000 : Nat) = 9999 + 1 from rfl, Op.equalIn]
  simp only [Sem.run_bind, run_underlying Try.underlying53, Result.andThen_ok]
  simp only [Std.Legacy.Range.forIn_eq_forIn_range', Std.Legacy.Range.size, Nat.sub_zero, Nat.add_sub_cancel, Nat.div_one, List.range'_succ, List.range'_zero, List.forIn_cons, List.forIn_nil]
  go_simp
theorem neq_arr4 (a b c d : Int) (w : World) : (binOp .neq 53 (.agg #[.int .i64 a, .int .i64 b, .int .i64 c, .int .i64 d]) (.agg #[.int .i64 a, .int .i64 b, .int .i64 c, .int .i64 d])).run Try.prog w = Result.ok (.bool false) w := by
  simp [go_sem]
  rw [eq_arr4]
  rfl
def WtK (w : World) (g g' : Nat) (a b p q r s : Int) (wr : World) : Prop := Bx wr g [.int .i64 a, .int .i64 b] ∧ Bx wr g' [.int .i64 p, .int .i64 q, .int .i64 r, .int .i64 s] ∧ Below w.heap.size w wr
theorem WtK.below {w w1 w2 : World} {g g' : Nat} {a b p q r s : Int} (h : WtK w g g' a b p q r s w1) (hb : Below w1.heap.size w1 w2) : WtK w g g' a b p q r s w2 := ⟨h.1.below hb, h.2.1.below hb, h.2.2.trans (hb.mono h.2.2.size)⟩
theorem WtK.drewN {w w1 : World} {g g' : Nat} {a b p q r s : Int} (h : WtK w g g' a b p q r s w1) (n : Nat) : WtK w g g' a b p q r s (w1.drewN n) := ⟨h.1.drewN n, h.2.1.drewN n, bdrewN h.2.2 n⟩
/-- the table lies there, in a block g -/
def TbB (w : World) (g : Nat) (wr : World) : Prop := (∃ cs, tabP cs 256 ∧ Bx wr g cs) ∧ Below w.heap.size w wr ∧ True
theorem TbB.below {w w1 w2 : World} {g : Nat} (h : TbB w g w1) (hb : Below w1.heap.size w1 w2) : TbB w g w2 := by
  obtain ⟨⟨cs, h1, h2⟩, h3, _⟩ := h
  exact ⟨⟨cs, h1, h2.below hb⟩, h3.trans (hb.mono h3.size), trivial⟩
theorem TbB.drewN {w w1 : World} {g : Nat} (h : TbB w g w1) (n : Nat) : TbB w g (w1.drewN n) := by
  obtain ⟨⟨cs, h1, h2⟩, h3, _⟩ := h
  exact ⟨⟨cs, h1, h2.drewN n⟩, bdrewN h3 n, trivial⟩
theorem TbB.row {w wr : World} {g i : Nat} (h : TbB w g wr) (hi : i < 256) : Bx4 wr g (i * 4) (.int .i64 (outerZ i)) (.int .i64 (innerZ i)) (.int .i64 (innerZ (256 - i))) (.int .i64 (outerZ (256 - i))) := by
  obtain ⟨⟨cs, h1, h2⟩, _⟩ := h
  obtain ⟨a, b, c, d⟩ := h1.2 i hi
  exact ⟨h2.2 _ _ a, h2.2 _ _ b, h2.2 _ _ c, h2.2 _ _ d⟩
theorem tells_start {w w4 w5 : World} {g : Nat} (h : Below w.heap.size w w4) (hT : (∃ cs, tabP cs 256 ∧ Bx w5 g cs) ∧ Below w4.heap.size w4 w5) : TbB w g w5 := ⟨hT.1, h.trans (hT.2.mono h.size), trivial⟩
set_option maxRecDepth 100000 in
set_option maxHeartbeats 16000000 in
theorem WeightTells_walk (f t : Int) (w : World) : Calls Try.prog 6 #[.int .i64 f, .int .i64 t] w (Says w (.bool true)) := by
  have HA := hide alive27_any
  have HT := hide Table_any
  have HB := hide (Below.refl w.heap.size w)
  rcases (show (0 ≤ f ∧ f ≤ 65536) ∨ f < 0 ∨ 65536 < f by omega) with l | l | l
  · rcases (show (0 ≤ t ∧ t ≤ 256) ∨ t < 0 ∨ 256 < t by omega) with k | k | k
    · skip
      have H1 := hide (fun w => WLinear_yes f l.1 l.2 w)
      have HR1 := hide (fun w => RLinear_any f l.1 l.2 w)
      have l1 : ¬ f < 0 := by omega
      have l2 : ¬ 65536 < f := by omega
      obtain ⟨a, ha⟩ : ∃ z, 65536 - f = z := ⟨_, rfl⟩
      rw [ha] at H1 HR1
      clear ha l
      have H2 := hide (fun w => WCubic_yes t k.1 k.2 w)
      have HR2 := hide (fun w => RCubic_any t k.1 k.2 w)
      have k1 : ¬ t < 0 := by omega
      have k2 : ¬ 256 < t := by omega
      generalize outerZ t = p at *
      generalize innerZ t = q at *
      generalize innerZ (256 - t) = r at *
      generalize outerZ (256 - t) = s at *
      clear k
      have hqa := fun w => neq_arr2 a f w
      have hqb := fun w => neq_arr4 p q r s w
      go_enter Try.func6, Try.ntmps6
      go_wp2_with fail
      refine (H1.out _).mono ?_
      rintro e w1 ⟨rfl, hb1⟩
      have HB1 := hide (HB.out.trans (hb1.mono (Nat.le_refl _)))
      clear hb1
      go_wp2_with fail
      refine (H2.out _).mono ?_
      rintro e w2 ⟨rfl, hb2⟩
      have X1 := (Bx.at (w := w1) (g := w1.heap.size) [.int .i64 a, .int .i64 f] 50 rfl).below hb2
      have HB2 := hide ((HB1.out.alloc HB1.out.size (.cells #[.int .i64 a, .int .i64 f] 50)).trans (hb2.mono (by have := HB1.out.size; simp; omega)))
      have K0 := hide (show WtK w w1.heap.size w2.heap.size a f p q r s (w2.alloc (.cells #[.int .i64 p, .int .i64 q, .int .i64 r, .int .i64 s] 53)) from ⟨X1.alloc _, Bx.at [.int .i64 p, .int .i64 q, .int .i64 r, .int .i64 s] 53 rfl, HB2.out.alloc HB2.out.size _⟩)
      obtain ⟨_, c0, c1, _, _⟩ := X1.two
      have z2 : w1.heap.size < w2.heap.size := by have := hb2.size; simp at this; omega
      clear hb2 X1
      go_wp2_with fail
      refine (HR1.out _).mono ?_
      rintro e w3 ⟨g9, rfl, hX, hb⟩
      have K1 := hide (K0.out.below hb)
      obtain ⟨_, x0, x1, _, _⟩ := hX.two
      clear hb hX c0 c1
      obtain ⟨_, c0, c1, _, _⟩ := K1.out.1.two
      obtain ⟨_, d0, d1, d2, d3, _, _, _, _⟩ := K1.out.2.1.four
      go_wp2_with fail
      refine wp_region_quiet_lit (by kernel_rfl) (by kernel_rfl) ?_
      iterate 13 go_big_quiet_step (fail)
      refine wpQuiet_nil ?_
      intro _ hw'
      obtain ⟨nq, hw''⟩ := hw'
      subst hw''
      have K2 := hide (K1.out.drewN nq)
      clear x0 x1 c0 c1 d0 d1 d2 d3
      obtain ⟨_, c0, c1, _, _⟩ := K2.out.1.two
      obtain ⟨_, d0, d1, d2, d3, _, _, _, _⟩ := K2.out.2.1.four
      go_wp2_with fail
      refine (HR2.out _).mono ?_
      rintro e w4 ⟨g10, rfl, hX, hb⟩
      have K3 := hide (K2.out.below hb)
      obtain ⟨_, x0, x1, x2, x3, _, _, _, _⟩ := hX.four
      clear hb hX c0 c1 d0 d1 d2 d3
      obtain ⟨_, c0, c1, _, _⟩ := K3.out.1.two
      obtain ⟨_, d0, d1, d2, d3, _, _, _, _⟩ := K3.out.2.1.four
      go_wp2_with fail
      refine wp_region_quiet_lit (by kernel_rfl) (by kernel_rfl) ?_
      iterate 19 go_big_quiet_step (fail)
      refine wpQuiet_nil ?_
      intro _ hw'
      obtain ⟨nq, hw''⟩ := hw'
      subst hw''
      have K4 := hide (K3.out.drewN nq)
      clear x0 x1 x2 x3 c0 c1 d0 d1 d2 d3
      obtain ⟨_, c0, c1, _, _⟩ := K4.out.1.two
      obtain ⟨_, d0, d1, d2, d3, _, _, _, _⟩ := K4.out.2.1.four
      go_wp2_with fail
      refine (HT.out _).mono ?_
      rintro e w5 ⟨g, rfl, hT⟩
      have KT := hide (tells_start K4.out.2.2 hT)
      clear hT c0 c1 d0 d1 d2 d3
      go_wp2_with fail
      go_loopw [12] (fun i wr => ∃ j : Nat, j ≤ 256 ∧ i = .int .i64 j ∧ TbB w g wr) (fun i _ => 256 - (intOf i).toNat)
      case atStart => exact ⟨0, Nat.zero_le _, rfl, KT.out⟩
      case round =>
        clear KT
        obtain ⟨j, hj, rfl, hT⟩ := hrel
        have HTT := hide hT
        clear hT
        by_cases hlt : j < 256
        · have HCj := hide (fun w => RCubic_any (j : Int) (by omega) (by omega) w)
          have HRow := hide (fun wr (h : TbB w g wr) => TbB.row h hlt)
          obtain ⟨p', hp⟩ : ∃ z, outerZ j = z := ⟨_, rfl⟩
          obtain ⟨q', hq⟩ : ∃ z, innerZ j = z := ⟨_, rfl⟩
          obtain ⟨r', hr⟩ : ∃ z, innerZ (256 - j) = z := ⟨_, rfl⟩
          obtain ⟨s', hs⟩ : ∃ z, outerZ (256 - j) = z := ⟨_, rfl⟩
          rw [hp, hq, hr, hs] at HCj HRow
          have hqj := fun w => neq_arr4 p' q' r' s' w
          clear hp hq hr hs
          have i0 : (0 : Int) ≤ (j : Int) := by omega
          have i1 : (j : Int) < 256 := by omega
          go_wp2_with fail
          refine (HCj.out _).mono ?_
          rintro e w6 ⟨g13, rfl, hX, hb⟩
          have HT6 := hide (HTT.out.below hb)
          obtain ⟨_, x0, x1, x2, x3, _, _, _, _⟩ := hX.four
          obtain ⟨⟨y0, _⟩, ⟨y1, _⟩, ⟨y2, _⟩, y3, _⟩ := HRow.out _ HT6.out
          clear hb hX
          go_wp2_with fail
          refine wp_region_quiet_lit (by kernel_rfl) (by kernel_rfl) ?_
          iterate 18 go_big_quiet_step (fail)
          refine wpQuiet_nil ?_
          intro _ hw'
          obtain ⟨nq, hw''⟩ := hw'
          subst hw''
          have HT7 := hide (HT6.out.drewN nq)
          go_wp2_with fail
          go_roundw
          case rel => exact ⟨j + 1, by omega, by go_num, HT7.out⟩
          case measure => simp [intOf]; omega
        · obtain rfl : j = 256 := by omega
          go_wp2_with fail
          refine (HA.out _).mono ?_
          rintro e w9 ⟨rfl, hb⟩
          have HT9 := hide (HTT.out.below hb)
          clear hb
          go_wp2_with fail
          go_ret
          exact ⟨rfl, HT9.out.2.1⟩
    · skip
      have H1 := hide (fun w => WLinear_yes f l.1 l.2 w)
      have HR1 := hide (fun w => RLinear_any f l.1 l.2 w)
      have l1 : ¬ f < 0 := by omega
      have l2 : ¬ 65536 < f := by omega
      obtain ⟨a, ha⟩ : ∃ z, 65536 - f = z := ⟨_, rfl⟩
      rw [ha] at H1 HR1
      clear ha l
      have H2 := hide (fun w => WCubic_no t (by omega) w)
      have hqa := fun w => neq_arr2 a f w
      have hqb := fun w => neq_arr4 0 0 0 0 w
      go_enter Try.func6, Try.ntmps6
      go_wp2_with fail
      refine (H1.out _).mono ?_
      rintro e w1 ⟨rfl, hb1⟩
      have HB1 := hide (HB.out.trans (hb1.mono (Nat.le_refl _)))
      clear hb1
      go_wp2_with fail
      refine (H2.out _).mono ?_
      rintro e w2 ⟨rfl, hb2⟩
      have X1 := (Bx.at (w := w1) (g := w1.heap.size) [.int .i64 a, .int .i64 f] 50 rfl).below hb2
      have HB2 := hide ((HB1.out.alloc HB1.out.size (.cells #[.int .i64 a, .int .i64 f] 50)).trans (hb2.mono (by have := HB1.out.size; simp; omega)))
      have K0 := hide (show WtK w w1.heap.size w2.heap.size a f 0 0 0 0 (w2.alloc (.cells #[.int .i64 0, .int .i64 0, .int .i64 0, .int .i64 0] 53)) from ⟨X1.alloc _, Bx.at [.int .i64 0, .int .i64 0, .int .i64 0, .int .i64 0] 53 rfl, HB2.out.alloc HB2.out.size _⟩)
      obtain ⟨_, c0, c1, _, _⟩ := X1.two
      have z2 : w1.heap.size < w2.heap.size := by have := hb2.size; simp at this; omega
      clear hb2 X1
      go_wp2_with fail
      refine (HR1.out _).mono ?_
      rintro e w3 ⟨g9, rfl, hX, hb⟩
      have K1 := hide (K0.out.below hb)
      obtain ⟨_, x0, x1, _, _⟩ := hX.two
      clear hb hX c0 c1
      obtain ⟨_, c0, c1, _, _⟩ := K1.out.1.two
      obtain ⟨_, d0, d1, d2, d3, _, _, _, _⟩ := K1.out.2.1.four
      go_wp2_with fail
      refine wp_region_quiet_lit (by kernel_rfl) (by kernel_rfl) ?_
      iterate 13 go_big_quiet_step (fail)
      refine wpQuiet_nil ?_
      intro _ hw'
      obtain ⟨nq, hw''⟩ := hw'
      subst hw''
      have K2 := hide (K1.out.drewN nq)
      clear x0 x1 c0 c1 d0 d1 d2 d3
      obtain ⟨_, c0, c1, _, _⟩ := K2.out.1.two
      obtain ⟨_, d0, d1, d2, d3, _, _, _, _⟩ := K2.out.2.1.four
      go_wp2_with fail
      refine (HT.out _).mono ?_
      rintro e w5 ⟨g, rfl, hT⟩
      have KT := hide (tells_start K2.out.2.2 hT)
      clear hT c0 c1 d0 d1 d2 d3
      go_wp2_with fail
      go_loopw [12] (fun i wr => ∃ j : Nat, j ≤ 256 ∧ i = .int .i64 j ∧ TbB w g wr) (fun i _ => 256 - (intOf i).toNat)
      case atStart => exact ⟨0, Nat.zero_le _, rfl, KT.out⟩
      case round =>
        clear KT
        obtain ⟨j, hj, rfl, hT⟩ := hrel
        have HTT := hide hT
        clear hT
        by_cases hlt : j < 256
        · have HCj := hide (fun w => RCubic_any (j : Int) (by omega) (by omega) w)
          have HRow := hide (fun wr (h : TbB w g wr) => TbB.row h hlt)
          obtain ⟨p', hp⟩ : ∃ z, outerZ j = z := ⟨_, rfl⟩
          obtain ⟨q', hq⟩ : ∃ z, innerZ j = z := ⟨_, rfl⟩
          obtain ⟨r', hr⟩ : ∃ z, innerZ (256 - j) = z := ⟨_, rfl⟩
          obtain ⟨s', hs⟩ : ∃ z, outerZ (256 - j) = z := ⟨_, rfl⟩
          rw [hp, hq, hr, hs] at HCj HRow
          have hqj := fun w => neq_arr4 p' q' r' s' w
          clear hp hq hr hs
          have i0 : (0 : Int) ≤ (j : Int) := by omega
          have i1 : (j : Int) < 256 := by omega
          go_wp2_with fail
          refine (HCj.out _).mono ?_
          rintro e w6 ⟨g13, rfl, hX, hb⟩
          have HT6 := hide (HTT.out.below hb)
          obtain ⟨_, x0, x1, x2, x3, _, _, _, _⟩ := hX.four
          obtain ⟨⟨y0, _⟩, ⟨y1, _⟩, ⟨y2, _⟩, y3, _⟩ := HRow.out _ HT6.out
          clear hb hX
          go_wp2_with fail
          refine wp_region_quiet_lit (by kernel_rfl) (by kernel_rfl) ?_
          iterate 18 go_big_quiet_step (fail)
          refine wpQuiet_nil ?_
          intro _ hw'
          obtain ⟨nq, hw''⟩ := hw'
          subst hw''
          have HT7 := hide (HT6.out.drewN nq)
          go_wp2_with fail
          go_roundw
          case rel => exact ⟨j + 1, by omega, by go_num, HT7.out⟩
          case measure => simp [intOf]; omega
        · obtain rfl : j = 256 := by omega
          go_wp2_with fail
          refine (HA.out _).mono ?_
          rintro e w9 ⟨rfl, hb⟩
          have HT9 := hide (HTT.out.below hb)
          clear hb
          go_wp2_with fail
          go_ret
          exact ⟨rfl, HT9.out.2.1⟩
    · skip
      have H1 := hide (fun w => WLinear_yes f l.1 l.2 w)
      have HR1 := hide (fun w => RLinear_any f l.1 l.2 w)
      have l1 : ¬ f < 0 := by omega
      have l2 : ¬ 65536 < f := by omega
      obtain ⟨a, ha⟩ : ∃ z, 65536 - f = z := ⟨_, rfl⟩
      rw [ha] at H1 HR1
      clear ha l
      have H2 := hide (fun w => WCubic_no t (by omega) w)
      have hqa := fun w => neq_arr2 a f w
      have hqb := fun w => neq_arr4 0 0 0 0 w
      go_enter Try.func6, Try.ntmps6
      go_wp2_with fail
      refine (H1.out _).mono ?_
      rintro e w1 ⟨rfl, hb1⟩
      have HB1 := hide (HB.out.trans (hb1.mono (Nat.le_refl _)))
      clear hb1
      go_wp2_with fail
      refine (H2.out _).mono ?_
      rintro e w2 ⟨rfl, hb2⟩
      have X1 := (Bx.at (w := w1) (g := w1.heap.size) [.int .i64 a, .int .i64 f] 50 rfl).below hb2
      have HB2 := hide ((HB1.out.alloc HB1.out.size (.cells #[.int .i64 a, .int .i64 f] 50)).trans (hb2.mono (by have := HB1.out.size; simp; omega)))
      have K0 := hide (show WtK w w1.heap.size w2.heap.size a f 0 0 0 0 (w2.alloc (.cells #[.int .i64 0, .int .i64 0, .int .i64 0, .int .i64 0] 53)) from ⟨X1.alloc _, Bx.at [.int .i64 0, .int .i64 0, .int .i64 0, .int .i64 0] 53 rfl, HB2.out.alloc HB2.out.size _⟩)
      obtain ⟨_, c0, c1, _, _⟩ := X1.two
      have z2 : w1.heap.size < w2.heap.size := by have := hb2.size; simp at this; omega
      clear hb2 X1
      go_wp2_with fail
      refine (HR1.out _).mono ?_
      rintro e w3 ⟨g9, rfl, hX, hb⟩
      have K1 := hide (K0.out.below hb)
      obtain ⟨_, x0, x1, _, _⟩ := hX.two
      clear hb hX c0 c1
      obtain ⟨_, c0, c1, _, _⟩ := K1.out.1.two
      obtain ⟨_, d0, d1, d2, d3, _, _, _, _⟩ := K1.out.2.1.four
      go_wp2_with fail
      refine wp_region_quiet_lit (by kernel_rfl) (by kernel_rfl) ?_
      iterate 13 go_big_quiet_step (fail)
      refine wpQuiet_nil ?_
      intro _ hw'
      obtain ⟨nq, hw''⟩ := hw'
      subst hw''
      have K2 := hide (K1.out.drewN nq)
      clear x0 x1 c0 c1 d0 d1 d2 d3
      obtain ⟨_, c0, c1, _, _⟩ := K2.out.1.two
      obtain ⟨_, d0, d1, d2, d3, _, _, _, _⟩ := K2.out.2.1.four
      go_wp2_with fail
      refine (HT.out _).mono ?_
      rintro e w5 ⟨g, rfl, hT⟩
      have KT := hide (tells_start K2.out.2.2 hT)
      clear hT c0 c1 d0 d1 d2 d3
      go_wp2_with fail
      go_loopw [12] (fun i wr => ∃ j : Nat, j ≤ 256 ∧ i = .int .i64 j ∧ TbB w g wr) (fun i _ => 256 - (intOf i).toNat)
      case atStart => exact ⟨0, Nat.zero_le _, rfl, KT.out⟩
      case round =>
        clear KT
        obtain ⟨j, hj, rfl, hT⟩ := hrel
        have HTT := hide hT
        clear hT
        by_cases hlt : j < 256
        · have HCj := hide (fun w => RCubic_any (j : Int) (by omega) (by omega) w)
          have HRow := hide (fun wr (h : TbB w g wr) => TbB.row h hlt)
          obtain ⟨p', hp⟩ : ∃ z, outerZ j = z := ⟨_, rfl⟩
          obtain ⟨q', hq⟩ : ∃ z, innerZ j = z := ⟨_, rfl⟩
          obtain ⟨r', hr⟩ : ∃ z, innerZ (256 - j) = z := ⟨_, rfl⟩
          obtain ⟨s', hs⟩ : ∃ z, outerZ (256 - j) = z := ⟨_, rfl⟩
          rw [hp, hq, hr, hs] at HCj HRow
          have hqj := fun w => neq_arr4 p' q' r' s' w
          clear hp hq hr hs
          have i0 : (0 : Int) ≤ (j : Int) := by omega
          have i1 : (j : Int) < 256 := by omega
          go_wp2_with fail
          refine (HCj.out _).mono ?_
          rintro e w6 ⟨g13, rfl, hX, hb⟩
          have HT6 := hide (HTT.out.below hb)
          obtain ⟨_, x0, x1, x2, x3, _, _, _, _⟩ := hX.four
          obtain ⟨⟨y0, _⟩, ⟨y1, _⟩, ⟨y2, _⟩, y3, _⟩ := HRow.out _ HT6.out
          clear hb hX
          go_wp2_with fail
          refine wp_region_quiet_lit (by kernel_rfl) (by kernel_rfl) ?_
          iterate 18 go_big_quiet_step (fail)
          refine wpQuiet_nil ?_
          intro _ hw'
          obtain ⟨nq, hw''⟩ := hw'
          subst hw''
          have HT7 := hide (HT6.out.drewN nq)
          go_wp2_with fail
          go_roundw
          case rel => exact ⟨j + 1, by omega, by go_num, HT7.out⟩
          case measure => simp [intOf]; omega
        · obtain rfl : j = 256 := by omega
          go_wp2_with fail
          refine (HA.out _).mono ?_
          rintro e w9 ⟨rfl, hb⟩
          have HT9 := hide (HTT.out.below hb)
          clear hb
          go_wp2_with fail
          go_ret
          exact ⟨rfl, HT9.out.2.1⟩
  · rcases (show (0 ≤ t ∧ t ≤ 256) ∨ t < 0 ∨ 256 < t by omega) with k | k | k
    · skip
      have H1 := hide (fun w => WLinear_no f (by omega) w)
      have H2 := hide (fun w => WCubic_yes t k.1 k.2 w)
      have HR2 := hide (fun w => RCubic_any t k.1 k.2 w)
      have k1 : ¬ t < 0 := by omega
      have k2 : ¬ 256 < t := by omega
      generalize outerZ t = p at *
      generalize innerZ t = q at *
      generalize innerZ (256 - t) = r at *
      generalize outerZ (256 - t) = s at *
      clear k
      have hqa := fun w => neq_arr2 0 0 w
      have hqb := fun w => neq_arr4 p q r s w
      go_enter Try.func6, Try.ntmps6
      go_wp2_with fail
      refine (H1.out _).mono ?_
      rintro e w1 ⟨rfl, hb1⟩
      have HB1 := hide (HB.out.trans (hb1.mono (Nat.le_refl _)))
      clear hb1
      go_wp2_with fail
      refine (H2.out _).mono ?_
      rintro e w2 ⟨rfl, hb2⟩
      have X1 := (Bx.at (w := w1) (g := w1.heap.size) [.int .i64 0, .int .i64 0] 50 rfl).below hb2
      have HB2 := hide ((HB1.out.alloc HB1.out.size (.cells #[.int .i64 0, .int .i64 0] 50)).trans (hb2.mono (by have := HB1.out.size; simp; omega)))
      have K0 := hide (show WtK w w1.heap.size w2.heap.size 0 0 p q r s (w2.alloc (.cells #[.int .i64 p, .int .i64 q, .int .i64 r, .int .i64 s] 53)) from ⟨X1.alloc _, Bx.at [.int .i64 p, .int .i64 q, .int .i64 r, .int .i64 s] 53 rfl, HB2.out.alloc HB2.out.size _⟩)
      obtain ⟨_, c0, c1, _, _⟩ := X1.two
      have z2 : w1.heap.size < w2.heap.size := by have := hb2.size; simp at this; omega
      clear hb2 X1
      go_wp2_with fail
      refine (HR2.out _).mono ?_
      rintro e w4 ⟨g10, rfl, hX, hb⟩
      have K3 := hide (K0.out.below hb)
      obtain ⟨_, x0, x1, x2, x3, _, _, _, _⟩ := hX.four
      clear hb hX c0 c1
      obtain ⟨_, c0, c1, _, _⟩ := K3.out.1.two
      obtain ⟨_, d0, d1, d2, d3, _, _, _, _⟩ := K3.out.2.1.four
      go_wp2_with fail
      refine wp_region_quiet_lit (by kernel_rfl) (by kernel_rfl) ?_
      iterate 19 go_big_quiet_step (fail)
      refine wpQuiet_nil ?_
      intro _ hw'
      obtain ⟨nq, hw''⟩ := hw'
      subst hw''
      have K4 := hide (K3.out.drewN nq)
      clear x0 x1 x2 x3 c0 c1 d0 d1 d2 d3
      obtain ⟨_, c0, c1, _, _⟩ := K4.out.1.two
      obtain ⟨_, d0, d1, d2, d3, _, _, _, _⟩ := K4.out.2.1.four
      go_wp2_with fail
      refine (HT.out _).mono ?_
      rintro e w5 ⟨g, rfl, hT⟩
      have KT := hide (tells_start K4.out.2.2 hT)
      clear hT c0 c1 d0 d1 d2 d3
      go_wp2_with fail
      go_loopw [12] (fun i wr => ∃ j : Nat, j ≤ 256 ∧ i = .int .i64 j ∧ TbB w g wr) (fun i _ => 256 - (intOf i).toNat)
      case atStart => exact ⟨0, Nat.zero_le _, rfl, KT.out⟩
      case round =>
        clear KT
        obtain ⟨j, hj, rfl, hT⟩ := hrel
        have HTT := hide hT
        clear hT
        by_cases hlt : j < 256
        · have HCj := hide (fun w => RCubic_any (j : Int) (by omega) (by omega) w)
          have HRow := hide (fun wr (h : TbB w g wr) => TbB.row h hlt)
          obtain ⟨p', hp⟩ : ∃ z, outerZ j = z := ⟨_, rfl⟩
          obtain ⟨q', hq⟩ : ∃ z, innerZ j = z := ⟨_, rfl⟩
          obtain ⟨r', hr⟩ : ∃ z, innerZ (256 - j) = z := ⟨_, rfl⟩
          obtain ⟨s', hs⟩ : ∃ z, outerZ (256 - j) = z := ⟨_, rfl⟩
          rw [hp, hq, hr, hs] at HCj HRow
          have hqj := fun w => neq_arr4 p' q' r' s' w
          clear hp hq hr hs
          have i0 : (0 : Int) ≤ (j : Int) := by omega
          have i1 : (j : Int) < 256 := by omega
          go_wp2_with fail
          refine (HCj.out _).mono ?_
          rintro e w6 ⟨g13, rfl, hX, hb⟩
          have HT6 := hide (HTT.out.below hb)
          obtain ⟨_, x0, x1, x2, x3, _, _, _, _⟩ := hX.four
          obtain ⟨⟨y0, _⟩, ⟨y1, _⟩, ⟨y2, _⟩, y3, _⟩ := HRow.out _ HT6.out
          clear hb hX
          go_wp2_with fail
          refine wp_region_quiet_lit (by kernel_rfl) (by kernel_rfl) ?_
          iterate 18 go_big_quiet_step (fail)
          refine wpQuiet_nil ?_
          intro _ hw'
          obtain ⟨nq, hw''⟩ := hw'
          subst hw''
          have HT7 := hide (HT6.out.drewN nq)
          go_wp2_with fail
          go_roundw
          case rel => exact ⟨j + 1, by omega, by go_num, HT7.out⟩
          case measure => simp [intOf]; omega
        · obtain rfl : j = 256 := by omega
          go_wp2_with fail
          refine (HA.out _).mono ?_
          rintro e w9 ⟨rfl, hb⟩
          have HT9 := hide (HTT.out.below hb)
          clear hb
          go_wp2_with fail
          go_ret
          exact ⟨rfl, HT9.out.2.1⟩
    · skip
      have H1 := hide (fun w => WLinear_no f (by omega) w)
      have H2 := hide (fun w => WCubic_no t (by omega) w)
      have hqa := fun w => neq_arr2 0 0 w
      have hqb := fun w => neq_arr4 0 0 0 0 w
      go_enter Try.func6, Try.ntmps6
      go_wp2_with fail
      refine (H1.out _).mono ?_
      rintro e w1 ⟨rfl, hb1⟩
      have HB1 := hide (HB.out.trans (hb1.mono (Nat.le_refl _)))
      clear hb1
      go_wp2_with fail
      refine (H2.out _).mono ?_
      rintro e w2 ⟨rfl, hb2⟩
      have X1 := (Bx.at (w := w1) (g := w1.heap.size) [.int .i64 0, .int .i64 0] 50 rfl).below hb2
      have HB2 := hide ((HB1.out.alloc HB1.out.size (.cells #[.int .i64 0, .int .i64 0] 50)).trans (hb2.mono (by have := HB1.out.size; simp; omega)))
      have K0 := hide (show WtK w w1.heap.size w2.heap.size 0 0 0 0 0 0 (w2.alloc (.cells #[.int .i64 0, .int .i64 0, .int .i64 0, .int .i64 0] 53)) from ⟨X1.alloc _, Bx.at [.int .i64 0, .int .i64 0, .int .i64 0, .int .i64 0] 53 rfl, HB2.out.alloc HB2.out.size _⟩)
      obtain ⟨_, c0, c1, _, _⟩ := X1.two
      have z2 : w1.heap.size < w2.heap.size := by have := hb2.size; simp at this; omega
      clear hb2 X1
      go_wp2_with fail
      refine (HT.out _).mono ?_
      rintro e w5 ⟨g, rfl, hT⟩
      have KT := hide (tells_start K0.out.2.2 hT)
      clear hT c0 c1
      go_wp2_with fail
      go_loopw [12] (fun i wr => ∃ j : Nat, j ≤ 256 ∧ i = .int .i64 j ∧ TbB w g wr) (fun i _ => 256 - (intOf i).toNat)
      case atStart => exact ⟨0, Nat.zero_le _, rfl, KT.out⟩
      case round =>
        clear KT
        obtain ⟨j, hj, rfl, hT⟩ := hrel
        have HTT := hide hT
        clear hT
        by_cases hlt : j < 256
        · have HCj := hide (fun w => RCubic_any (j : Int) (by omega) (by omega) w)
          have HRow := hide (fun wr (h : TbB w g wr) => TbB.row h hlt)
          obtain ⟨p', hp⟩ : ∃ z, outerZ j = z := ⟨_, rfl⟩
          obtain ⟨q', hq⟩ : ∃ z, innerZ j = z := ⟨_, rfl⟩
          obtain ⟨r', hr⟩ : ∃ z, innerZ (256 - j) = z := ⟨_, rfl⟩
          obtain ⟨s', hs⟩ : ∃ z, outerZ (256 - j) = z := ⟨_, rfl⟩
          rw [hp, hq, hr, hs] at HCj HRow
          have hqj := fun w => neq_arr4 p' q' r' s' w
          clear hp hq hr hs
          have i0 : (0 : Int) ≤ (j : Int) := by omega
          have i1 : (j : Int) < 256 := by omega
          go_wp2_with fail
          refine (HCj.out _).mono ?_
          rintro e w6 ⟨g13, rfl, hX, hb⟩
          have HT6 := hide (HTT.out.below hb)
          obtain ⟨_, x0, x1, x2, x3, _, _, _, _⟩ := hX.four
          obtain ⟨⟨y0, _⟩, ⟨y1, _⟩, ⟨y2, _⟩, y3, _⟩ := HRow.out _ HT6.out
          clear hb hX
          go_wp2_with fail
          refine wp_region_quiet_lit (by kernel_rfl) (by kernel_rfl) ?_
          iterate 18 go_big_quiet_step (fail)
          refine wpQuiet_nil ?_
          intro _ hw'
          obtain ⟨nq, hw''⟩ := hw'
          subst hw''
          have HT7 := hide (HT6.out.drewN nq)
          go_wp2_with fail
          go_roundw
          case rel => exact ⟨j + 1, by omega, by go_num, HT7.out⟩
          case measure => simp [intOf]; omega
        · obtain rfl : j = 256 := by omega
          go_wp2_with fail
          refine (HA.out _).mono ?_
          rintro e w9 ⟨rfl, hb⟩
          have HT9 := hide (HTT.out.below hb)
          clear hb
          go_wp2_with fail
          go_ret
          exact ⟨rfl, HT9.out.2.1⟩
    · skip
      have H1 := hide (fun w => WLinear_no f (by omega) w)
      have H2 := hide (fun w => WCubic_no t (by omega) w)
      have hqa := fun w => neq_arr2 0 0 w
      have hqb := fun w => neq_arr4 0 0 0 0 w
      go_enter Try.func6, Try.ntmps6
      go_wp2_with fail
      refine (H1.out _).mono ?_
      rintro e w1 ⟨rfl, hb1⟩
      have HB1 := hide (HB.out.trans (hb1.mono (Nat.le_refl _)))
      clear hb1
      go_wp2_with fail
      refine (H2.out _).mono ?_
      rintro e w2 ⟨rfl, hb2⟩
      have X1 := (Bx.at (w := w1) (g := w1.heap.size) [.int .i64 0, .int .i64 0] 50 rfl).below hb2
      have HB2 := hide ((HB1.out.alloc HB1.out.size (.cells #[.int .i64 0, .int .i64 0] 50)).trans (hb2.mono (by have := HB1.out.size; simp; omega)))
      have K0 := hide (show WtK w w1.heap.size w2.heap.size 0 0 0 0 0 0 (w2.alloc (.cells #[.int .i64 0, .int .i64 0, .int .i64 0, .int .i64 0] 53)) from ⟨X1.alloc _, Bx.at [.int .i64 0, .int .i64 0, .int .i64 0, .int .i64 0] 53 rfl, HB2.out.alloc HB2.out.size _⟩)
      obtain ⟨_, c0, c1, _, _⟩ := X1.two
      have z2 : w1.heap.size < w2.heap.size := by have := hb2.size; simp at this; omega
      clear hb2 X1
      go_wp2_with fail
      refine (HT.out _).mono ?_
      rintro e w5 ⟨g, rfl, hT⟩
      have KT := hide (tells_start K0.out.2.2 hT)
      clear hT c0 c1
      go_wp2_with fail
      go_loopw [12] (fun i wr => ∃ j : Nat, j ≤ 256 ∧ i = .int .i64 j ∧ TbB w g wr) (fun i _ => 256 - (intOf i).toNat)
      case atStart => exact ⟨0, Nat.zero_le _, rfl, KT.out⟩
      case round =>
        clear KT
        obtain ⟨j, hj, rfl, hT⟩ := hrel
        have HTT := hide hT
        clear hT
        by_cases hlt : j < 256
        · have HCj := hide (fun w => RCubic_any (j : Int) (by omega) (by omega) w)
          have HRow := hide (fun wr (h : TbB w g wr) => TbB.row h hlt)
          obtain ⟨p', hp⟩ : ∃ z, outerZ j = z := ⟨_, rfl⟩
          obtain ⟨q', hq⟩ : ∃ z, innerZ j = z := ⟨_, rfl⟩
          obtain ⟨r', hr⟩ : ∃ z, innerZ (256 - j) = z := ⟨_, rfl⟩
          obtain ⟨s', hs⟩ : ∃ z, outerZ (256 - j) = z := ⟨_, rfl⟩
          rw [hp, hq, hr, hs] at HCj HRow
          have hqj := fun w => neq_arr4 p' q' r' s' w
          clear hp hq hr hs
          have i0 : (0 : Int) ≤ (j : Int) := by omega
          have i1 : (j : Int) < 256 := by omega
          go_wp2_with fail
          refine (HCj.out _).mono ?_
          rintro e w6 ⟨g13, rfl, hX, hb⟩
          have HT6 := hide (HTT.out.below hb)
          obtain ⟨_, x0, x1, x2, x3, _, _, _, _⟩ := hX.four
          obtain ⟨⟨y0, _⟩, ⟨y1, _⟩, ⟨y2, _⟩, y3, _⟩ := HRow.out _ HT6.out
          clear hb hX
          go_wp2_with fail
          refine wp_region_quiet_lit (by kernel_rfl) (by kernel_rfl) ?_
          iterate 18 go_big_quiet_step (fail)
          refine wpQuiet_nil ?_
          intro _ hw'
          obtain ⟨nq, hw''⟩ := hw'
          subst hw''
          have HT7 := hide (HT6.out.drewN nq)
          go_wp2_with fail
          go_roundw
          case rel => exact ⟨j + 1, by omega, by go_num, HT7.out⟩
          case measure => simp [intOf]; omega
        · obtain rfl : j = 256 := by omega
          go_wp2_with fail
          refine (HA.out _).mono ?_
          rintro e w9 ⟨rfl, hb⟩
          have HT9 := hide (HTT.out.below hb)
          clear hb
          go_wp2_with fail
          go_ret
          exact ⟨rfl, HT9.out.2.1⟩
  · rcases (show (0 ≤ t ∧ t ≤ 256) ∨ t < 0 ∨ 256 < t by omega) with k | k | k
    · skip
      have H1 := hide (fun w => WLinear_no f (by omega) w)
      have H2 := hide (fun w => WCubic_yes t k.1 k.2 w)
      have HR2 := hide (fun w => RCubic_any t k.1 k.2 w)
      have k1 : ¬ t < 0 := by omega
      have k2 : ¬ 256 < t := by omega
      generalize outerZ t = p at *
      generalize innerZ t = q at *
      generalize innerZ (256 - t) = r at *
      generalize outerZ (256 - t) = s at *
      clear k
      have hqa := fun w => neq_arr2 0 0 w
      have hqb := fun w => neq_arr4 p q r s w
      go_enter Try.func6, Try.ntmps6
      go_wp2_with fail
      refine (H1.out _).mono ?_
      rintro e w1 ⟨rfl, hb1⟩
      have HB1 := hide (HB.out.trans (hb1.mono (Nat.le_refl _)))
      clear hb1
      go_wp2_with fail
      refine (H2.out _).mono ?_
      rintro e w2 ⟨rfl, hb2⟩
      have X1 := (Bx.at (w := w1) (g := w1.heap.size) [.int .i64 0, .int .i64 0] 50 rfl).below hb2
      have HB2 := hide ((HB1.out.alloc HB1.out.size (.cells #[.int .i64 0, .int .i64 0] 50)).trans (hb2.mono (by have := HB1.out.size; simp; omega)))
      have K0 := hide (show WtK w w1.heap.size w2.heap.size 0 0 p q r s (w2.alloc (.cells #[.int .i64 p, .int .i64 q, .int .i64 r, .int .i64 s] 53)) from ⟨X1.alloc _, Bx.at [.int .i64 p, .int .i64 q, .int .i64 r, .int .i64 s] 53 rfl, HB2.out.alloc HB2.out.size _⟩)
      obtain ⟨_, c0, c1, _, _⟩ := X1.two
      have z2 : w1.heap.size < w2.heap.size := by have := hb2.size; simp at this; omega
      clear hb2 X1
      go_wp2_with fail
      refine (HR2.out _).mono ?_
      rintro e w4 ⟨g10, rfl, hX, hb⟩
      have K3 := hide (K0.out.below hb)
      obtain ⟨_, x0, x1, x2, x3, _, _, _, _⟩ := hX.four
      clear hb hX c0 c1
      obtain ⟨_, c0, c1, _, _⟩ := K3.out.1.two
      obtain ⟨_, d0, d1, d2, d3, _, _, _, _⟩ := K3.out.2.1.four
      go_wp2_with fail
      refine wp_region_quiet_lit (by kernel_rfl) (by kernel_rfl) ?_
      iterate 19 go_big_quiet_step (fail)
      refine wpQuiet_nil ?_
      intro _ hw'
      obtain ⟨nq, hw''⟩ := hw'
      subst hw''
      have K4 := hide (K3.out.drewN nq)
      clear x0 x1 x2 x3 c0 c1 d0 d1 d2 d3
      obtain ⟨_, c0, c1, _, _⟩ := K4.out.1.two
      obtain ⟨_, d0, d1, d2, d3, _, _, _, _⟩ := K4.out.2.1.four
      go_wp2_with fail
      refine (HT.out _).mono ?_
      rintro e w5 ⟨g, rfl, hT⟩
      have KT := hide (tells_start K4.out.2.2 hT)
      clear hT c0 c1 d0 d1 d2 d3
      go_wp2_with fail
      go_loopw [12] (fun i wr => ∃ j : Nat, j ≤ 256 ∧ i = .int .i64 j ∧ TbB w g wr) (fun i _ => 256 - (intOf i).toNat)
      case atStart => exact ⟨0, Nat.zero_le _, rfl, KT.out⟩
      case round =>
        clear KT
        obtain ⟨j, hj, rfl, hT⟩ := hrel
        have HTT := hide hT
        clear hT
        by_cases hlt : j < 256
        · have HCj := hide (fun w => RCubic_any (j : Int) (by omega) (by omega) w)
          have HRow := hide (fun wr (h : TbB w g wr) => TbB.row h hlt)
          obtain ⟨p', hp⟩ : ∃ z, outerZ j = z := ⟨_, rfl⟩
          obtain ⟨q', hq⟩ : ∃ z, innerZ j = z := ⟨_, rfl⟩
          obtain ⟨r', hr⟩ : ∃ z, innerZ (256 - j) = z := ⟨_, rfl⟩
          obtain ⟨s', hs⟩ : ∃ z, outerZ (256 - j) = z := ⟨_, rfl⟩
          rw [hp, hq, hr, hs] at HCj HRow
          have hqj := fun w => neq_arr4 p' q' r' s' w
          clear hp hq hr hs
          have i0 : (0 : Int) ≤ (j : Int) := by omega
          have i1 : (j : Int) < 256 := by omega
          go_wp2_with fail
          refine (HCj.out _).mono ?_
          rintro e w6 ⟨g13, rfl, hX, hb⟩
          have HT6 := hide (HTT.out.below hb)
          obtain ⟨_, x0, x1, x2, x3, _, _, _, _⟩ := hX.four
          obtain ⟨⟨y0, _⟩, ⟨y1, _⟩, ⟨y2, _⟩, y3, _⟩ := HRow.out _ HT6.out
          clear hb hX
          go_wp2_with fail
          refine wp_region_quiet_lit (by kernel_rfl) (by kernel_rfl) ?_
          iterate 18 go_big_quiet_step (fail)
          refine wpQuiet_nil ?_
          intro _ hw'
          obtain ⟨nq, hw''⟩ := hw'
          subst hw''
          have HT7 := hide (HT6.out.drewN nq)
          go_wp2_with fail
          go_roundw
          case rel => exact ⟨j + 1, by omega, by go_num, HT7.out⟩
          case measure => simp [intOf]; omega
        · obtain rfl : j = 256 := by omega
          go_wp2_with fail
          refine (HA.out _).mono ?_
          rintro e w9 ⟨rfl, hb⟩
          have HT9 := hide (HTT.out.below hb)
          clear hb
          go_wp2_with fail
          go_ret
          exact ⟨rfl, HT9.out.2.1⟩
    · skip
      have H1 := hide (fun w => WLinear_no f (by omega) w)
      have H2 := hide (fun w => WCubic_no t (by omega) w)
      have hqa := fun w => neq_arr2 0 0 w
      have hqb := fun w => neq_arr4 0 0 0 0 w
      go_enter Try.func6, Try.ntmps6
      go_wp2_with fail
      refine (H1.out _).mono ?_
      rintro e w1 ⟨rfl, hb1⟩
      have HB1 := hide (HB.out.trans (hb1.mono (Nat.le_refl _)))
      clear hb1
      go_wp2_with fail
      refine (H2.out _).mono ?_
      rintro e w2 ⟨rfl, hb2⟩
      have X1 := (Bx.at (w := w1) (g := w1.heap.size) [.int .i64 0, .int .i64 0] 50 rfl).below hb2
      have HB2 := hide ((HB1.out.alloc HB1.out.size (.cells #[.int .i64 0, .int .i64 0] 50)).trans (hb2.mono (by have := HB1.out.size; simp; omega)))
      have K0 := hide (show WtK w w1.heap.size w2.heap.size 0 0 0 0 0 0 (w2.alloc (.cells #[.int .i64 0, .int .i64 0, .int .i64 0, .int .i64 0] 53)) from ⟨X1.alloc _, Bx.at [.int .i64 0, .int .i64 0, .int .i64 0, .int .i64 0] 53 rfl, HB2.out.alloc HB2.out.size _⟩)
      obtain ⟨_, c0, c1, _, _⟩ := X1.two
      have z2 : w1.heap.size < w2.heap.size := by have := hb2.size; simp at this; omega
      clear hb2 X1
      go_wp2_with fail
      refine (HT.out _).mono ?_
      rintro e w5 ⟨g, rfl, hT⟩
      have KT := hide (tells_start K0.out.2.2 hT)
      clear hT c0 c1
      go_wp2_with fail
      go_loopw [12] (fun i wr => ∃ j : Nat, j ≤ 256 ∧ i = .int .i64 j ∧ TbB w g wr) (fun i _ => 256 - (intOf i).toNat)
      case atStart => exact ⟨0, Nat.zero_le _, rfl, KT.out⟩
      case round =>
        clear KT
        obtain ⟨j, hj, rfl, hT⟩ := hrel
        have HTT := hide hT
        clear hT
        by_cases hlt : j < 256
        · have HCj := hide (fun w => RCubic_any (j : Int) (by omega) (by omega) w)
          have HRow := hide (fun wr (h : TbB w g wr) => TbB.row h hlt)
          obtain ⟨p', hp⟩ : ∃ z, outerZ j = z := ⟨_, rfl⟩
          obtain ⟨q', hq⟩ : ∃ z, innerZ j = z := ⟨_, rfl⟩
          obtain ⟨r', hr⟩ : ∃ z, innerZ (256 - j) = z := ⟨_, rfl⟩
          obtain ⟨s', hs⟩ : ∃ z, outerZ (256 - j) = z := ⟨_, rfl⟩
          rw [hp, hq, hr, hs] at HCj HRow
          have hqj := fun w => neq_arr4 p' q' r' s' w
          clear hp hq hr hs
          have i0 : (0 : Int) ≤ (j : Int) := by omega
          have i1 : (j : Int) < 256 := by omega
          go_wp2_with fail
          refine (HCj.out _).mono ?_
          rintro e w6 ⟨g13, rfl, hX, hb⟩
          have HT6 := hide (HTT.out.below hb)
          obtain ⟨_, x0, x1, x2, x3, _, _, _, _⟩ := hX.four
          obtain ⟨⟨y0, _⟩, ⟨y1, _⟩, ⟨y2, _⟩, y3, _⟩ := HRow.out _ HT6.out
          clear hb hX
          go_wp2_with fail
          refine wp_region_quiet_lit (by kernel_rfl) (by kernel_rfl) ?_
          iterate 18 go_big_quiet_step (fail)
          refine wpQuiet_nil ?_
          intro _ hw'
          obtain ⟨nq, hw''⟩ := hw'
          subst hw''
          have HT7 := hide (HT6.out.drewN nq)
          go_wp2_with fail
          go_roundw
          case rel => exact ⟨j + 1, by omega, by go_num, HT7.out⟩
          case measure => simp [intOf]; omega
        · obtain rfl : j = 256 := by omega
          go_wp2_with fail
          refine (HA.out _).mono ?_
          rintro e w9 ⟨rfl, hb⟩
          have HT9 := hide (HTT.out.below hb)
          clear hb
          go_wp2_with fail
          go_ret
          exact ⟨rfl, HT9.out.2.1⟩
    · skip
      have H1 := hide (fun w => WLinear_no f (by omega) w)
      have H2 := hide (fun w => WCubic_no t (by omega) w)
      have hqa := fun w => neq_arr2 0 0 w
      have hqb := fun w => neq_arr4 0 0 0 0 w
      go_enter Try.func6, Try.ntmps6
      go_wp2_with fail
      refine (H1.out _).mono ?_
      rintro e w1 ⟨rfl, hb1⟩
      have HB1 := hide (HB.out.trans (hb1.mono (Nat.le_refl _)))
      clear hb1
      go_wp2_with fail
      refine (H2.out _).mono ?_
      rintro e w2 ⟨rfl, hb2⟩
      have X1 := (Bx.at (w := w1) (g := w1.heap.size) [.int .i64 0, .int .i64 0] 50 rfl).below hb2
      have HB2 := hide ((HB1.out.alloc HB1.out.size (.cells #[.int .i64 0, .int .i64 0] 50)).trans (hb2.mono (by have := HB1.out.size; simp; omega)))
      have K0 := hide (show WtK w w1.heap.size w2.heap.size 0 0 0 0 0 0 (w2.alloc (.cells #[.int .i64 0, .int .i64 0, .int .i64 0, .int .i64 0] 53)) from ⟨X1.alloc _, Bx.at [.int .i64 0, .int .i64 0, .int .i64 0, .int .i64 0] 53 rfl, HB2.out.alloc HB2.out.size _⟩)
      obtain ⟨_, c0, c1, _, _⟩ := X1.two
      have z2 : w1.heap.size < w2.heap.size := by have := hb2.size; simp at this; omega
      clear hb2 X1
      go_wp2_with fail
      refine (HT.out _).mono ?_
      rintro e w5 ⟨g, rfl, hT⟩
      have KT := hide (tells_start K0.out.2.2 hT)
      clear hT c0 c1
      go_wp2_with fail
      go_loopw [12] (fun i wr => ∃ j : Nat, j ≤ 256 ∧ i = .int .i64 j ∧ TbB w g wr) (fun i _ => 256 - (intOf i).toNat)
      case atStart => exact ⟨0, Nat.zero_le _, rfl, KT.out⟩
      case round =>
        clear KT
        obtain ⟨j, hj, rfl, hT⟩ := hrel
        have HTT := hide hT
        clear hT
        by_cases hlt : j < 256
        · have HCj := hide (fun w => RCubic_any (j : Int) (by omega) (by omega) w)
          have HRow := hide (fun wr (h : TbB w g wr) => TbB.row h hlt)
          obtain ⟨p', hp⟩ : ∃ z, outerZ j = z := ⟨_, rfl⟩
          obtain ⟨q', hq⟩ : ∃ z, innerZ j = z := ⟨_, rfl⟩
          obtain ⟨r', hr⟩ : ∃ z, innerZ (256 - j) = z := ⟨_, rfl⟩
          obtain ⟨s', hs⟩ : ∃ z, outerZ (256 - j) = z := ⟨_, rfl⟩
          rw [hp, hq, hr, hs] at HCj HRow
          have hqj := fun w => neq_arr4 p' q' r' s' w
          clear hp hq hr hs
          have i0 : (0 : Int) ≤ (j : Int) := by omega
          have i1 : (j : Int) < 256 := by omega
          go_wp2_with fail
          refine (HCj.out _).mono ?_
          rintro e w6 ⟨g13, rfl, hX, hb⟩
          have HT6 := hide (HTT.out.below hb)
          obtain ⟨_, x0, x1, x2, x3, _, _, _, _⟩ := hX.four
          obtain ⟨⟨y0, _⟩, ⟨y1, _⟩, ⟨y2, _⟩, y3, _⟩ := HRow.out _ HT6.out
          clear hb hX
          go_wp2_with fail
          refine wp_region_quiet_lit (by kernel_rfl) (by kernel_rfl) ?_
          iterate 18 go_big_quiet_step (fail)
          refine wpQuiet_nil ?_
          intro _ hw'
          obtain ⟨nq, hw''⟩ := hw'
          subst hw''
          have HT7 := hide (HT6.out.drewN nq)
          go_wp2_with fail
          go_roundw
          case rel => exact ⟨j + 1, by omega, by go_num, HT7.out⟩
          case measure => simp [intOf]; omega
        · obtain rfl : j = 256 := by omega
          go_wp2_with fail
          refine (HA.out _).mono ?_
          rintro e w9 ⟨rfl, hb⟩
          have HT9 := hide (HTT.out.below hb)
          clear hb
          go_wp2_with fail
          go_ret
          exact ⟨rfl, HT9.out.2.1⟩
end Go.Proofs.Ytbogckpnajjlmaa
