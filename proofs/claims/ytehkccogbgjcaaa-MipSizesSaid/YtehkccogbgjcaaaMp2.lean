/-
Contracts of mip's Size. No statement is proved here.
-/
import Derived.Test.YtehkccogbgjcaaaMp1
namespace Go.Proofs.Ytehkccogbgjcaaa
open Go.RowKit

theorem Size_any (w0 h0 k0 : Int) (w : World) : Calls Try.prog 36 #[.int .i64 w0, .int .i64 h0, .int .i64 k0] w fun e w' => e = .returned (.tuple #[.int .i64 (sizeW w0 h0 k0), .int .i64 (sizeH w0 h0 k0)]) ∧ w = w' := by
  have HW := hide (Side_any w0)
  have HH := hide (Side_any h0)
  have HL := hide (Levels_any k0)
  by_cases a1 : 1 ≤ w0 ∧ w0 ≤ 32768
  · rw [decide_eq_true a1] at HW
    by_cases a2 : 1 ≤ h0 ∧ h0 ≤ 32768
    · rw [decide_eq_true a2] at HH
      by_cases a3 : 0 ≤ k0 ∧ k0 ≤ 15
      · rw [decide_eq_true a3] at HL
        have hr : rightM w0 h0 k0 := ⟨a1.1, a1.2, a2.1, a2.2, a3.1, a3.2⟩
        unfold sizeW sizeH
        rw [if_pos hr, if_pos hr]
        obtain ⟨k, hk⟩ : ∃ k : Nat, k0 = k := ⟨k0.toNat, by omega⟩
        subst hk
        rw [Int.toNat_natCast]
        have G1 := hide (Halved_any w0 k a1 (by omega))
        have G2 := hide (Halved_any h0 k a2 (by omega))
        generalize hvZ w0 k = p at *
        generalize hvZ h0 k = q at *
        clear a1 a2 a3 hr
        go_enter Try.func36, Try.ntmps36
        go_wp2_with fail
        refine (HW.out _).mono ?_
        rintro e w1 ⟨rfl, rfl⟩
        go_wp2_with fail
        refine (HH.out _).mono ?_
        rintro e w1 ⟨rfl, rfl⟩
        go_wp2_with fail
        refine (HL.out _).mono ?_
        rintro e w1 ⟨rfl, rfl⟩
        go_wp2_with fail
        refine (G1.out _).mono ?_
        rintro e w1 ⟨rfl, rfl⟩
        go_wp2_with fail
        refine (G2.out _).mono ?_
        rintro e w1 ⟨rfl, rfl⟩
        go_wp2_with fail
        refine bodyPost_ret (v := .tuple #[.int .i64 p, .int .i64 q]) (by simp [results, Try.results36, go_sem]) rfl ⟨rfl, rfl⟩
      · skip
        rw [decide_eq_false a3] at HL
        have hr : ¬ rightM w0 h0 k0 := fun t => by unfold rightM at t; omega
        unfold sizeW sizeH
        rw [if_neg hr, if_neg hr]
        clear hr
        clear a1 a2 a3
        go_enter Try.func36, Try.ntmps36
        go_wp2_with fail
        refine (HW.out _).mono ?_
        rintro e w1 ⟨rfl, rfl⟩
        go_wp2_with fail
        refine (HH.out _).mono ?_
        rintro e w1 ⟨rfl, rfl⟩
        go_wp2_with fail
        refine (HL.out _).mono ?_
        rintro e w1 ⟨rfl, rfl⟩
        go_wp2_with fail
        refine bodyPost_ret (v := .tuple #[.int .i64 0, .int .i64 0]) (by simp [results, Try.results36, go_sem]) rfl ⟨rfl, rfl⟩
    · rw [decide_eq_false a2] at HH
      have hr : ¬ rightM w0 h0 k0 := fun t => by unfold rightM at t; omega
      unfold sizeW sizeH
      rw [if_neg hr, if_neg hr]
      clear hr
      clear a1 a2
      go_enter Try.func36, Try.ntmps36
      go_wp2_with fail
      refine (HW.out _).mono ?_
      rintro e w1 ⟨rfl, rfl⟩
      go_wp2_with fail
      refine (HH.out _).mono ?_
      rintro e w1 ⟨rfl, rfl⟩
      go_wp2_with fail
      refine bodyPost_ret (v := .tuple #[.int .i64 0, .int .i64 0]) (by simp [results, Try.results36, go_sem]) rfl ⟨rfl, rfl⟩
  · rw [decide_eq_false a1] at HW
    have hr : ¬ rightM w0 h0 k0 := fun t => by unfold rightM at t; omega
    unfold sizeW sizeH
    rw [if_neg hr, if_neg hr]
    clear hr
    clear a1
    go_enter Try.func36, Try.ntmps36
    go_wp2_with fail
    refine (HW.out _).mono ?_
    rintro e w1 ⟨rfl, rfl⟩
    go_wp2_with fail
    refine bodyPost_ret (v := .tuple #[.int .i64 0, .int .i64 0]) (by simp [results, Try.results36, go_sem]) rfl ⟨rfl, rfl⟩
end Go.Proofs.Ytehkccogbgjcaaa
