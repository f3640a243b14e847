/-
Contract of math/bits.Div64 where the upper half isn't 0: the walk. No statement is proved here.
-/
import Derived.Test.YtoaaecggfaaplaaDiv2
namespace Go.Proofs.Ytoaaecggfaaplaa
open Go.RowKit

theorem ex_mul64 (q y : Nat) (hq : q ≤ 4294967295) (hy : y ≤ 4294967295) : ∃ P : Nat, IntKind.u64.wrap ((q : Int) * (y : Int)) = (P : Int) ∧ Hid (P = q * y) := by
  refine ⟨q * y, ?_, rfl⟩
  have : q * y ≤ 4294967295 * 4294967295 := Nat.mul_le_mul hq hy
  rw [← Int.natCast_mul, IntKind.wrap_u64]
  omega
theorem dl_r {Y1 Y0 U u1 q r : Nat} (h : DL Y1 Y0 U u1 q r) : r ≤ 4294967295 := by have := h.2.1; omega
theorem dl_q {Y1 Y0 U u1 q r : Nat} (h : DL Y1 Y0 U u1 q r) : q ≤ 4294967297 := h.2.2.2

set_option maxHeartbeats 4000000 in
set_option maxRecDepth 100000 in
theorem Div64_high (hi lo y s Y Y1 Y0 U L u1 u0 q0 p0 r0 Q1 x1 x2 x3 T g0 gp gr Q0 z1 z2 z3 R : Nat) (w : World) (h0 : 0 < hi) (hlt : hi < y) (h2 : (y : Int) ≤ 18446744073709551615)
    (hs : Hid ((s : Int) = 64 - (Lib.bitLen y : Int))) (hs1 : s ≤ 63)
    (hY : IntKind.u64.wrap ((y : Int) * 2 ^ s) = (Y : Int)) (hY1 : (Y : Int) / 4294967296 = (Y1 : Int)) (hY0 : bits .and .u64 (Y : Int) 4294967295 = (Y0 : Int)) (hYp : 2147483648 ≤ Y1) (hYq : Y1 ≤ 4294967295) (hYz : Y0 ≤ 4294967295)
    (hU : bits .or .u64 (IntKind.u64.wrap ((hi : Int) * 2 ^ s)) ((lo : Int) / 2 ^ (64 - s)) = (U : Int)) (hL : IntKind.u64.wrap ((lo : Int) * 2 ^ s) = (L : Int)) (hL1 : (L : Int) / 4294967296 = (u1 : Int)) (hL0 : bits .and .u64 (L : Int) 4294967295 = (u0 : Int))
    (hu1 : u1 ≤ 4294967295) (hu0 : u0 ≤ 4294967295) (hq0 : IntKind.u64.wrap ((U : Int) / (Y1 : Int)) = (q0 : Int)) (hp0 : IntKind.u64.wrap ((q0 : Int) * (Y1 : Int)) = (p0 : Int)) (hr0 : IntKind.u64.wrap ((U : Int) - (p0 : Int)) = (r0 : Int))
    (HD1 : Hid (DL Y1 Y0 U u1 q0 r0)) (HY : Hid (DY Y1 Y0)) (HU : Hid (U < Y1 * 4294967296 + Y0)) (Hu1l : Hid (u1 < 4294967296)) (Hu0l : Hid (u0 < 4294967296)) (HQ1 : Hid (Q1 = (U * 4294967296 + u1) / (Y1 * 4294967296 + Y0))) (hQ1 : Q1 ≤ 4294967295)
    (hx1 : IntKind.u64.wrap ((U : Int) * 4294967296) = (x1 : Int)) (hx2 : IntKind.u64.wrap ((x1 : Int) + (u1 : Int)) = (x2 : Int)) (hx3 : IntKind.u64.wrap ((Q1 : Int) * (Y : Int)) = (x3 : Int)) (hT : IntKind.u64.wrap ((x2 : Int) - (x3 : Int)) = (T : Int))
    (hg0 : IntKind.u64.wrap ((T : Int) / (Y1 : Int)) = (g0 : Int)) (hgp : IntKind.u64.wrap ((g0 : Int) * (Y1 : Int)) = (gp : Int)) (hgr : IntKind.u64.wrap ((T : Int) - (gp : Int)) = (gr : Int)) (HD2 : Hid (DL Y1 Y0 T u0 g0 gr)) (HT : Hid (T < Y1 * 4294967296 + Y0))
    (HQ0 : Hid (Q0 = (T * 4294967296 + u0) / (Y1 * 4294967296 + Y0))) (hQ0 : Q0 ≤ 4294967295) (hz1 : IntKind.u64.wrap ((T : Int) * 4294967296) = (z1 : Int)) (hz2 : IntKind.u64.wrap ((z1 : Int) + (u0 : Int)) = (z2 : Int)) (hz3 : IntKind.u64.wrap ((Q0 : Int) * (Y : Int)) = (z3 : Int)) (hR : IntKind.u64.wrap ((z2 : Int) - (z3 : Int)) = (R : Int))
    (Qf Rf : Nat) (HF : Hid ((Q1 : Int) * 4294967296 + (Q0 : Int) = (Qf : Int))) (HRf : (R : Int) / 2 ^ s = (Rf : Int)) :
    Calls Try.prog 54 #[.int .u64 hi, .int .u64 lo, .int .u64 y] w (DivPost w Qf Rf) := by
  have hy1 : ((y : Int) == 0) = false := by rw [beq_eq_false_iff_ne]; omega
  have hy2 : ((hi : Int) == 0) = false := by rw [beq_eq_false_iff_ne]; omega
  go_enter Try.func54, Try.ntmps54
  go_wp2_with (go_at_call 55; refine (Lead_any y s _ h2 hs.out).mono ?_; rintro e w' ⟨rfl, rfl⟩)
  go_loop [15, 16] (fun a b => ∃ qa ra : Nat, a = .int .u64 (qa : Int) ∧ b = .int .u64 (ra : Int) ∧ DL Y1 Y0 U u1 qa ra) (fun a b => (intOf a).toNat)
  case atStart => exact ⟨q0, r0, rfl, rfl, HD1.out⟩
  case round =>
    obtain ⟨qa, ra, rfl, rfl, hD⟩ := hrel
    have hr := dl_r hD
    have hqm := dl_q hD
    replace hD := hide hD
    by_cases hq1 : 4294967296 ≤ qa
    · have hqb : decide ((qa : Int) ≥ 4294967296) = true := by rw [decide_eq_true_iff]; omega
      obtain ⟨k1, k2, k3⟩ := hD.out.down HY.out HU.out Hu1l.out (by left; exact hq1)
      clear hq1
      have hD2 := hide k2
      have hD3 := hide k3
      clear k2 k3
      by_cases hb : ra + Y1 < 4294967296
      · have hbb : decide ((ra : Int) + (Y1 : Int) ≥ 4294967296) = false := by rw [decide_eq_false_iff_not]; omega
        have hD4 := hide (hD2.out hb)
        clear hb
        go_wp2_with fail
        go_round
        case rel => exact ⟨qa - 1, ra + Y1, by go_num, by go_num, hD4.out⟩
        case measure => simp [intOf]; omega
      · have hbb : decide ((ra : Int) + (Y1 : Int) ≥ 4294967296) = true := by rw [decide_eq_true_iff]; omega
        have hq : (qa : Int) - 1 = (Q1 : Int) := by have h1 := hD3.out (by omega); have h2 := HQ1.out; omega
        clear hb
        go_wp2_with fail
        go_loop [16, 18] (fun a b => ∃ qb rb : Nat, b = .int .u64 (qb : Int) ∧ a = .int .u64 (rb : Int) ∧ DL Y1 Y0 T u0 qb rb) (fun a b => (intOf b).toNat)
        case atStart => exact ⟨g0, gr, rfl, rfl, HD2.out⟩
        case round =>
          obtain ⟨qb, rb, rfl, rfl, hD⟩ := hrel
          have hr := dl_r hD
          have hqm := dl_q hD
          replace hD := hide hD
          by_cases hq1 : 4294967296 ≤ qb
          · have hqb : decide ((qb : Int) ≥ 4294967296) = true := by rw [decide_eq_true_iff]; omega
            obtain ⟨k1, k2, k3⟩ := hD.out.down HY.out HT.out Hu0l.out (by left; exact hq1)
            clear hq1
            have hD2 := hide k2
            have hD3 := hide k3
            clear k2 k3
            by_cases hb : rb + Y1 < 4294967296
            · have hbb : decide ((rb : Int) + (Y1 : Int) ≥ 4294967296) = false := by rw [decide_eq_false_iff_not]; omega
              have hD4 := hide (hD2.out hb)
              clear hb
              go_wp2_with fail
              go_round
              case rel => exact ⟨qb - 1, rb + Y1, by go_num, by go_num, hD4.out⟩
              case measure => simp [intOf]; omega
            · have hbb : decide ((rb : Int) + (Y1 : Int) ≥ 4294967296) = true := by rw [decide_eq_true_iff]; omega
              have hq : (qb : Int) - 1 = (Q0 : Int) := by have h1 := hD3.out (by omega); have h2 := HQ0.out; omega
              clear hb
              go_wp2_with fail
              go_ret2
              exact ⟨by simp only [HF.out]; rfl, Bel.refl _⟩

          · have hqb : decide ((qb : Int) ≥ 4294967296) = false := by rw [decide_eq_false_iff_not]; omega
            obtain ⟨P, hP, HP⟩ := ex_mul64 qb Y0 (by omega) (by omega)
            by_cases ht : 4294967296 * rb + u0 < P
            · have htb : decide ((P : Int) > 4294967296 * (rb : Int) + (u0 : Int)) = true := by rw [decide_eq_true_iff]; omega
              obtain ⟨k1, k2, k3⟩ := hD.out.down HY.out HT.out Hu0l.out (by right; rw [← HP.out]; exact ht)
              clear ht
              have hD2 := hide k2
              have hD3 := hide k3
              clear k2 k3
              by_cases hb : rb + Y1 < 4294967296
              · have hbb : decide ((rb : Int) + (Y1 : Int) ≥ 4294967296) = false := by rw [decide_eq_false_iff_not]; omega
                have hD4 := hide (hD2.out hb)
                clear hb
                go_wp2_with fail
                go_round
                case rel => exact ⟨qb - 1, rb + Y1, by go_num, by go_num, hD4.out⟩
                case measure => simp [intOf]; omega
              · have hbb : decide ((rb : Int) + (Y1 : Int) ≥ 4294967296) = true := by rw [decide_eq_true_iff]; omega
                have hq : (qb : Int) - 1 = (Q0 : Int) := by have h1 := hD3.out (by omega); have h2 := HQ0.out; omega
                clear hb
                go_wp2_with fail
                go_ret2
                exact ⟨by simp only [HF.out]; rfl, Bel.refl _⟩

            · have htb : decide ((P : Int) > 4294967296 * (rb : Int) + (u0 : Int)) = false := by rw [decide_eq_false_iff_not]; omega
              obtain rfl : qb = Q0 := by rw [HQ0.out]; exact hD.out.out HY.out (by rw [← HP.out]; omega)
              clear ht
              go_wp2_with fail
              go_ret2
              exact ⟨by simp only [HF.out]; rfl, Bel.refl _⟩

    · have hqb : decide ((qa : Int) ≥ 4294967296) = false := by rw [decide_eq_false_iff_not]; omega
      obtain ⟨P, hP, HP⟩ := ex_mul64 qa Y0 (by omega) (by omega)
      by_cases ht : 4294967296 * ra + u1 < P
      · have htb : decide ((P : Int) > 4294967296 * (ra : Int) + (u1 : Int)) = true := by rw [decide_eq_true_iff]; omega
        obtain ⟨k1, k2, k3⟩ := hD.out.down HY.out HU.out Hu1l.out (by right; rw [← HP.out]; exact ht)
        clear ht
        have hD2 := hide k2
        have hD3 := hide k3
        clear k2 k3
        by_cases hb : ra + Y1 < 4294967296
        · have hbb : decide ((ra : Int) + (Y1 : Int) ≥ 4294967296) = false := by rw [decide_eq_false_iff_not]; omega
          have hD4 := hide (hD2.out hb)
          clear hb
          go_wp2_with fail
          go_round
          case rel => exact ⟨qa - 1, ra + Y1, by go_num, by go_num, hD4.out⟩
          case measure => simp [intOf]; omega
        · have hbb : decide ((ra : Int) + (Y1 : Int) ≥ 4294967296) = true := by rw [decide_eq_true_iff]; omega
          have hq : (qa : Int) - 1 = (Q1 : Int) := by have h1 := hD3.out (by omega); have h2 := HQ1.out; omega
          clear hb
          go_wp2_with fail
          go_loop [16, 18] (fun a b => ∃ qb rb : Nat, b = .int .u64 (qb : Int) ∧ a = .int .u64 (rb : Int) ∧ DL Y1 Y0 T u0 qb rb) (fun a b => (intOf b).toNat)
          case atStart => exact ⟨g0, gr, rfl, rfl, HD2.out⟩
          case round =>
            obtain ⟨qb, rb, rfl, rfl, hD⟩ := hrel
            have hr := dl_r hD
            have hqm := dl_q hD
            replace hD := hide hD
            by_cases hq1 : 4294967296 ≤ qb
            · have hqb : decide ((qb : Int) ≥ 4294967296) = true := by rw [decide_eq_true_iff]; omega
              obtain ⟨k1, k2, k3⟩ := hD.out.down HY.out HT.out Hu0l.out (by left; exact hq1)
              clear hq1
              have hD2 := hide k2
              have hD3 := hide k3
              clear k2 k3
              by_cases hb : rb + Y1 < 4294967296
              · have hbb : decide ((rb : Int) + (Y1 : Int) ≥ 4294967296) = false := by rw [decide_eq_false_iff_not]; omega
                have hD4 := hide (hD2.out hb)
                clear hb
                go_wp2_with fail
                go_round
                case rel => exact ⟨qb - 1, rb + Y1, by go_num, by go_num, hD4.out⟩
                case measure => simp [intOf]; omega
              · have hbb : decide ((rb : Int) + (Y1 : Int) ≥ 4294967296) = true := by rw [decide_eq_true_iff]; omega
                have hq : (qb : Int) - 1 = (Q0 : Int) := by have h1 := hD3.out (by omega); have h2 := HQ0.out; omega
                clear hb
                go_wp2_with fail
                go_ret2
                exact ⟨by simp only [HF.out]; rfl, Bel.refl _⟩

            · have hqb : decide ((qb : Int) ≥ 4294967296) = false := by rw [decide_eq_false_iff_not]; omega
              obtain ⟨P, hP, HP⟩ := ex_mul64 qb Y0 (by omega) (by omega)
              by_cases ht : 4294967296 * rb + u0 < P
              · have htb : decide ((P : Int) > 4294967296 * (rb : Int) + (u0 : Int)) = true := by rw [decide_eq_true_iff]; omega
                obtain ⟨k1, k2, k3⟩ := hD.out.down HY.out HT.out Hu0l.out (by right; rw [← HP.out]; exact ht)
                clear ht
                have hD2 := hide k2
                have hD3 := hide k3
                clear k2 k3
                by_cases hb : rb + Y1 < 4294967296
                · have hbb : decide ((rb : Int) + (Y1 : Int) ≥ 4294967296) = false := by rw [decide_eq_false_iff_not]; omega
                  have hD4 := hide (hD2.out hb)
                  clear hb
                  go_wp2_with fail
                  go_round
                  case rel => exact ⟨qb - 1, rb + Y1, by go_num, by go_num, hD4.out⟩
                  case measure => simp [intOf]; omega
                · have hbb : decide ((rb : Int) + (Y1 : Int) ≥ 4294967296) = true := by rw [decide_eq_true_iff]; omega
                  have hq : (qb : Int) - 1 = (Q0 : Int) := by have h1 := hD3.out (by omega); have h2 := HQ0.out; omega
                  clear hb
                  go_wp2_with fail
                  go_ret2
                  exact ⟨by simp only [HF.out]; rfl, Bel.refl _⟩

              · have htb : decide ((P : Int) > 4294967296 * (rb : Int) + (u0 : Int)) = false := by rw [decide_eq_false_iff_not]; omega
                obtain rfl : qb = Q0 := by rw [HQ0.out]; exact hD.out.out HY.out (by rw [← HP.out]; omega)
                clear ht
                go_wp2_with fail
                go_ret2
                exact ⟨by simp only [HF.out]; rfl, Bel.refl _⟩

      · have htb : decide ((P : Int) > 4294967296 * (ra : Int) + (u1 : Int)) = false := by rw [decide_eq_false_iff_not]; omega
        obtain rfl : qa = Q1 := by rw [HQ1.out]; exact hD.out.out HY.out (by rw [← HP.out]; omega)
        clear ht
        go_wp2_with fail
        go_loop [16, 18] (fun a b => ∃ qb rb : Nat, b = .int .u64 (qb : Int) ∧ a = .int .u64 (rb : Int) ∧ DL Y1 Y0 T u0 qb rb) (fun a b => (intOf b).toNat)
        case atStart => exact ⟨g0, gr, rfl, rfl, HD2.out⟩
        case round =>
          obtain ⟨qb, rb, rfl, rfl, hD⟩ := hrel
          have hr := dl_r hD
          have hqm := dl_q hD
          replace hD := hide hD
          by_cases hq1 : 4294967296 ≤ qb
          · have hqb : decide ((qb : Int) ≥ 4294967296) = true := by rw [decide_eq_true_iff]; omega
            obtain ⟨k1, k2, k3⟩ := hD.out.down HY.out HT.out Hu0l.out (by left; exact hq1)
            clear hq1
            have hD2 := hide k2
            have hD3 := hide k3
            clear k2 k3
            by_cases hb : rb + Y1 < 4294967296
            · have hbb : decide ((rb : Int) + (Y1 : Int) ≥ 4294967296) = false := by rw [decide_eq_false_iff_not]; omega
              have hD4 := hide (hD2.out hb)
              clear hb
              go_wp2_with fail
              go_round
              case rel => exact ⟨qb - 1, rb + Y1, by go_num, by go_num, hD4.out⟩
              case measure => simp [intOf]; omega
            · have hbb : decide ((rb : Int) + (Y1 : Int) ≥ 4294967296) = true := by rw [decide_eq_true_iff]; omega
              have hq : (qb : Int) - 1 = (Q0 : Int) := by have h1 := hD3.out (by omega); have h2 := HQ0.out; omega
              clear hb
              go_wp2_with fail
              go_ret2
              exact ⟨by simp only [HF.out]; rfl, Bel.refl _⟩

          · have hqb : decide ((qb : Int) ≥ 4294967296) = false := by rw [decide_eq_false_iff_not]; omega
            obtain ⟨P, hP, HP⟩ := ex_mul64 qb Y0 (by omega) (by omega)
            by_cases ht : 4294967296 * rb + u0 < P
            · have htb : decide ((P : Int) > 4294967296 * (rb : Int) + (u0 : Int)) = true := by rw [decide_eq_true_iff]; omega
              obtain ⟨k1, k2, k3⟩ := hD.out.down HY.out HT.out Hu0l.out (by right; rw [← HP.out]; exact ht)
              clear ht
              have hD2 := hide k2
              have hD3 := hide k3
              clear k2 k3
              by_cases hb : rb + Y1 < 4294967296
              · have hbb : decide ((rb : Int) + (Y1 : Int) ≥ 4294967296) = false := by rw [decide_eq_false_iff_not]; omega
                have hD4 := hide (hD2.out hb)
                clear hb
                go_wp2_with fail
                go_round
                case rel => exact ⟨qb - 1, rb + Y1, by go_num, by go_num, hD4.out⟩
                case measure => simp [intOf]; omega
              · have hbb : decide ((rb : Int) + (Y1 : Int) ≥ 4294967296) = true := by rw [decide_eq_true_iff]; omega
                have hq : (qb : Int) - 1 = (Q0 : Int) := by have h1 := hD3.out (by omega); have h2 := HQ0.out; omega
                clear hb
                go_wp2_with fail
                go_ret2
                exact ⟨by simp only [HF.out]; rfl, Bel.refl _⟩

            · have htb : decide ((P : Int) > 4294967296 * (rb : Int) + (u0 : Int)) = false := by rw [decide_eq_false_iff_not]; omega
              obtain rfl : qb = Q0 := by rw [HQ0.out]; exact hD.out.out HY.out (by rw [← HP.out]; omega)
              clear ht
              go_wp2_with fail
              go_ret2
              exact ⟨by simp only [HF.out]; rfl, Bel.refl _⟩

end Go.Proofs.Ytoaaecggfaaplaa
