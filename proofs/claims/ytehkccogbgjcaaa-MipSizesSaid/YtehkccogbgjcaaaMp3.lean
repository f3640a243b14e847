/-
Contracts of mip's Count. No statement is proved here.
-/
import Derived.Test.YtehkccogbgjcaaaMp1
namespace Go.Proofs.Ytehkccogbgjcaaa
open Go.RowKit

set_option maxHeartbeats 1000000 in
theorem Count_any (w0 h0 k0 : Int) (w : World) : Calls Try.prog 38 #[.int .i64 w0, .int .i64 h0, .int .i64 k0] w fun e w' => e = .returned (.int .i64 (countZ w0 h0 k0)) ∧ w = w' := by
  have HW := hide (Side_any w0)
  have HH := hide (Side_any h0)
  have HL := hide (Levels_any k0)
  by_cases a1 : 1 ≤ w0 ∧ w0 ≤ 32768
  · rw [decide_eq_true a1] at HW
    by_cases a2 : 1 ≤ h0 ∧ h0 ≤ 32768
    · rw [decide_eq_true a2] at HH
      by_cases a3 : 0 ≤ k0 ∧ k0 ≤ 15
      · rw [decide_eq_true a3] at HL
        have hr : rightM w0 h0 k0 := ⟨a1.1, a1.2, a2.1, a2.2, a3.1, a3.2⟩
        unfold countZ
        rw [if_pos hr]
        obtain ⟨N, hk⟩ : ∃ k : Nat, k0 = k := ⟨k0.toNat, by omega⟩
        subst hk
        rw [Int.toNat_natCast]
        have hmx : 1 ≤ max w0 h0 ∧ max w0 h0 ≤ 32768 := by omega
        have i1 := if_max w0 h0
        have HC := hide (fun k (h : cntP (max w0 h0) N k) => cnt_one h)
        have HG := hide (fun k (hk : k ≤ 15) w => Halved_any (max w0 h0) k hmx hk w)
        obtain ⟨M, hM⟩ : ∃ M, max w0 h0 = M := ⟨_, rfl⟩
        rw [hM] at HC HG i1 ⊢
        have hN : N ≤ 15 := by omega
        obtain ⟨r, hr'⟩ : ∃ r, cntN M N = r := ⟨_, rfl⟩
        rw [hr'] at HC ⊢
        have HN := hide hN
        clear a1 a2 a3 hr hmx hr' hN
        go_enter Try.func38, Try.ntmps38
        go_wp2_with fail
        refine (HW.out _).mono ?_
        rintro e w1 ⟨rfl, rfl⟩
        go_wp2_with fail
        refine (HH.out _).mono ?_
        rintro e w1 ⟨rfl, rfl⟩
        go_wp2_with fail
        refine (HL.out _).mono ?_
        rintro e w1 ⟨rfl, rfl⟩
        go_wp2_with fail
        go_loop [7] (fun b => ∃ k : Nat, k ≤ N ∧ b = .int .i64 k ∧ ∀ j, j < k → 1 < hvZ M j) (fun b => N - (intOf b).toNat)
        case atStart => exact ⟨0, Nat.zero_le _, rfl, fun j hj => absurd hj (by omega)⟩
        case round =>
          obtain ⟨k, hk, rfl, h1⟩ := hrel
          have H1 := hide h1
          clear h1
          have hNN := HN.out
          have HE := hide (fun (t : k = N ∨ hvZ M k ≤ 1) => HC.out k ⟨hk, H1.out, t⟩)
          by_cases hlt : k < N
          · have HGk := hide (HG.out k (by have := HN.out; omega))
            have HS := hide (fun (t : 1 < hvZ M k) j (hj : j < k + 1) => show 1 < hvZ M j by
              rcases Nat.lt_or_ge j k with q | q
              · exact H1.out j q
              · obtain rfl : j = k := by omega
                exact t)
            have hif := hM
            by_cases hd : 1 < hvZ M k
            · have HD := hide (HS.out hd)
              generalize hvZ M k = z at hd HGk
              go_wp2_with fail
              refine (HGk.out _).mono ?_
              rintro e w1 ⟨rfl, rfl⟩
              go_wp2_with fail
              go_round
              case rel => exact ⟨k + 1, by omega, by go_num, HD.out⟩
              case measure => simp [intOf]; omega
            · have HD := hide (HE.out (Or.inr (by omega)))
              generalize hvZ M k = z at hd HGk
              go_wp2_with fail
              refine (HGk.out _).mono ?_
              rintro e w1 ⟨rfl, rfl⟩
              go_wp2_with fail
              go_ret
              exact ⟨congrArg (fun z : Nat => Ending.returned (Value.int .i64 ((z : Int) + 1))) HD.out.symm, rfl⟩
          · have HD := hide (HE.out (Or.inl (by omega)))
            go_wp2_with fail
            go_ret
            exact ⟨congrArg (fun z : Nat => Ending.returned (Value.int .i64 ((z : Int) + 1))) HD.out.symm, rfl⟩
      · skip
        rw [decide_eq_false a3] at HL
        have hr : ¬ rightM w0 h0 k0 := fun t => by unfold rightM at t; omega
        unfold countZ
        rw [if_neg hr]
        clear hr
        clear a1 a2 a3
        go_enter Try.func38, Try.ntmps38
        go_wp2_with fail
        refine (HW.out _).mono ?_
        rintro e w1 ⟨rfl, rfl⟩
        go_wp2_with fail
        refine (HH.out _).mono ?_
        rintro e w1 ⟨rfl, rfl⟩
        go_wp2_with fail
        refine (HL.out _).mono ?_
        rintro e w1 ⟨rfl, rfl⟩
        go_wp2_with fail
        go_ret
        exact ⟨rfl, rfl⟩
    · rw [decide_eq_false a2] at HH
      have hr : ¬ rightM w0 h0 k0 := fun t => by unfold rightM at t; omega
      unfold countZ
      rw [if_neg hr]
      clear hr
      clear a1 a2
      go_enter Try.func38, Try.ntmps38
      go_wp2_with fail
      refine (HW.out _).mono ?_
      rintro e w1 ⟨rfl, rfl⟩
      go_wp2_with fail
      refine (HH.out _).mono ?_
      rintro e w1 ⟨rfl, rfl⟩
      go_wp2_with fail
      go_ret
      exact ⟨rfl, rfl⟩
  · rw [decide_eq_false a1] at HW
    have hr : ¬ rightM w0 h0 k0 := fun t => by unfold rightM at t; omega
    unfold countZ
    rw [if_neg hr]
    clear hr
    clear a1
    go_enter Try.func38, Try.ntmps38
    go_wp2_with fail
    refine (HW.out _).mono ?_
    rintro e w1 ⟨rfl, rfl⟩
    go_wp2_with fail
    go_ret
    exact ⟨rfl, rfl⟩
end Go.Proofs.Ytehkccogbgjcaaa
