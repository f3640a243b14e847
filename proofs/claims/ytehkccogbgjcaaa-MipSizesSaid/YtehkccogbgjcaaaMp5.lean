/-
Contracts of the reference of layer 31: Count. No statement is proved here.
-/
import Derived.Test.YtehkccogbgjcaaaMp4
namespace Go.Proofs.Ytehkccogbgjcaaa
open Go.RowKit

set_option maxHeartbeats 1000000 in
theorem RCount_any (w0 h0 k0 : Int) (w : World) : Calls Try.prog 39 #[.int .i64 w0, .int .i64 h0, .int .i64 k0] w fun e w' => e = .returned (.int .i64 (countZ w0 h0 k0)) ∧ w = w' := by
  have HR := hide (RightM_any w0 h0 k0)
  have HZ := hide (fun k w => RSize_any w0 h0 k w)
  unfold countZ
  by_cases hr : rightM w0 h0 k0
  · rw [decide_eq_true hr] at HR
    rw [if_pos hr]
    obtain ⟨a1, a2, a3, a4, a5, a6⟩ := hr
    obtain ⟨N, hk⟩ : ∃ k : Nat, k0 = k := ⟨k0.toNat, by omega⟩
    subst hk
    rw [Int.toNat_natCast]
    have HC := hide (fun k (h : cntP (max w0 h0) N k) => cnt_one h)
    have HS := hide (fun k (hk : k ≤ N) => show sizeW w0 h0 (k : Nat) = hvZ w0 k ∧ sizeH w0 h0 (k : Nat) = hvZ h0 k by
      have : rightM w0 h0 (k : Nat) := ⟨a1, a2, a3, a4, by omega, by omega⟩
      unfold sizeW sizeH
      rw [if_pos this, if_pos this, Int.toNat_natCast]
      exact ⟨rfl, rfl⟩)
    have HB := hide (fun j => (⟨hv_bound a1 j, hv_bound a3 j, hv_max w0 h0 j⟩ : (1 ≤ hvZ w0 j ∧ hvZ w0 j ≤ w0) ∧ (1 ≤ hvZ h0 j ∧ hvZ h0 j ≤ h0) ∧ hvZ (max w0 h0) j = max (hvZ w0 j) (hvZ h0 j)))
    generalize max w0 h0 = M at *
    obtain ⟨r, hr'⟩ : ∃ r, cntN M N = r := ⟨_, rfl⟩
    rw [hr'] at HC ⊢
    have hN : N ≤ 15 := by omega
    have HN := hide hN
    clear a1 a3 a5 a6 hr' hN
    go_enter Try.func39, Try.ntmps39
    go_wp2_with fail
    refine (HR.out _).mono ?_
    rintro e w1 ⟨rfl, rfl⟩
    go_wp2_with fail
    go_loop [7] (fun b => ∃ k : Nat, k ≤ N ∧ b = .int .i64 k ∧ ∀ j, j < k → 1 < hvZ M j) (fun b => N - (intOf b).toNat)
    case atStart => exact ⟨0, Nat.zero_le _, rfl, fun j hj => absurd hj (by omega)⟩
    case round =>
      obtain ⟨k, hk, rfl, h1⟩ := hrel
      have H1 := hide h1
      clear h1
      have hNN := HN.out
      have HE := hide (fun (t : k = N ∨ hvZ M k ≤ 1) => HC.out k ⟨hk, H1.out, t⟩)
      have HS2 := hide (fun (t : 1 < hvZ M k) j (hj : j < k + 1) => show 1 < hvZ M j by
        rcases Nat.lt_or_ge j k with q | q
        · exact H1.out j q
        · obtain rfl : j = k := by omega
          exact t)
      by_cases hlt : k < N
      · have HZk := hide (HZ.out (k : Nat))
        obtain ⟨s1, s2⟩ := HS.out k hk
        rw [s1, s2] at HZk
        obtain ⟨b1, b2, b3⟩ := HB.out k
        generalize hvZ w0 k = p at *
        generalize hvZ h0 k = q at *
        have hmul : 1 ≤ p * q ∧ p * q ≤ 1073741824 := by
          have m1 : 1 * 1 ≤ p * q := Int.mul_le_mul b1.1 b2.1 (by omega) (by omega)
          have m2 : p * q ≤ 32768 * 32768 := Int.mul_le_mul (by omega) (by omega) (by omega) (by omega)
          omega
        by_cases hd : p * q = 1
        · have hp1 : p = 1 := by
            have : p * 1 ≤ p * q := Int.mul_le_mul_of_nonneg_left b2.1 (by omega)
            omega
          have hq1 : q = 1 := by
            have : 1 * q ≤ p * q := Int.mul_le_mul_of_nonneg_right b1.1 (by omega)
            omega
          subst hp1 hq1
          have HD := hide (HE.out (Or.inr (by omega)))
          clear b1 b2 b3 s1 s2 hmul hd
          go_wp2_with fail
          refine (HZk.out _).mono ?_
          rintro e w1 ⟨rfl, rfl⟩
          go_wp2_with fail
          go_ret
          exact ⟨congrArg (fun z : Nat => Ending.returned (Value.int .i64 ((z : Int) + 1))) HD.out.symm, rfl⟩
        · have hne : 1 < hvZ M k := by
            rcases Int.lt_or_le 1 (hvZ M k) with t | t
            · exact t
            · have e1 : p = 1 := by omega
              have e2 : q = 1 := by omega
              subst e1 e2
              exact absurd rfl hd
          have HD := hide (HS2.out hne)
          obtain ⟨m, hm⟩ : ∃ m, p * q = m := ⟨_, rfl⟩
          rw [hm] at hmul hd
          have hw : wrap64 (p * q) = m := by rw [hm]; exact IntWalk.wrap64_in _ (by omega)
          have hd2 : (m == 1) = false := by simpa using hd
          clear b1 b2 b3 s1 s2 hmul hd hne hm
          go_wp2_with fail
          refine (HZk.out _).mono ?_
          rintro e w1 ⟨rfl, rfl⟩
          go_wp2_with fail
          go_round
          case rel => exact ⟨k + 1, by omega, by go_num, HD.out⟩
          case measure => simp [intOf]; omega
      · have HD := hide (HE.out (Or.inl (by omega)))
        obtain rfl : k = N := by omega
        go_wp2_with fail
        go_ret
        exact ⟨congrArg (fun z : Nat => Ending.returned (Value.int .i64 ((z : Int) + 1))) HD.out.symm, rfl⟩
  · rw [decide_eq_false hr] at HR
    rw [if_neg hr]
    clear hr
    go_enter Try.func39, Try.ntmps39
    go_wp2_with fail
    refine (HR.out _).mono ?_
    rintro e w1 ⟨rfl, rfl⟩
    go_wp2_with fail
    go_ret
    exact ⟨rfl, rfl⟩
end Go.Proofs.Ytehkccogbgjcaaa
