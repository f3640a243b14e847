/-
Contracts of the reference's Pick. No statement is proved here.
-/
import Derived.Test.YtehkccogbgjcaaaLev1
namespace Go.Proofs.Ytehkccogbgjcaaa
open Go.RowKit

set_option maxHeartbeats 1000000 in
theorem RPick_any (d m : Int) (w : World) : Calls Try.prog 42 #[.int .i64 d, .int .i64 m] w fun e w' => e = .returned (.int .i64 (pickZ d m)) ∧ w = w' := by
  have hM := mostZ_le m
  have hmin : ∀ k : Nat, ((k : Int) + 1) ≤ min m 15 ↔ k < mostZ m := fun k => by unfold mostZ; omega
  have HP := hide (fun (n : Nat) (hn : n ≤ 15) (w : World) => P32_any n hn w)
  show Calls _ _ _ _ fun e w' => e = .returned (.int .i64 (lvZ d (mostZ m) : Nat)) ∧ w = w'
  obtain ⟨mm, hmm⟩ : ∃ mm, min m 15 = mm := ⟨_, rfl⟩
  obtain ⟨M, hMM⟩ : ∃ M, mostZ m = M := ⟨_, rfl⟩
  rw [hMM, hmm] at hmin
  rw [hMM] at hM ⊢
  clear hMM
  have HI := hide hmin
  clear hmin
  go_enter Try.func42, Try.ntmps42
  go_wp2_with fail
  go_loop [5, 6] (fun a b => ∃ k : Nat, k ≤ M ∧ b = .int .i64 ((k : Int) + 1) ∧ a = .int .i64 (lvZ d k : Nat)) (fun _ b => M + 1 - (intOf b).toNat)
  case atStart => exact ⟨0, Nat.zero_le _, rfl, rfl⟩
  case round =>
    obtain ⟨k, hk, rfl, rfl⟩ := hrel
    have hif := if_min m 15
    have hki := HI.out k
    obtain ⟨x, hx⟩ : ∃ x : Int, (lvZ d k : Nat) = x := ⟨_, rfl⟩
    rw [hx]
    by_cases hlt : k < M
    · have hl2 : (k : Int) + 1 ≤ mm := hki.2 hlt
      have hP := hide (HP.out (k + 1) (by omega) w)
      have e1 : ((k + 1 : Nat) : Int) = (k : Int) + 1 := by omega
      rw [e1] at hP
      have hp := pow15 (n := k + 1) (by omega)
      obtain ⟨p, hpp⟩ : ∃ p, (2 : Int) ^ (k + 1) = p := ⟨_, rfl⟩
      rw [hpp] at hp hP
      have hw : wrap64 (65536 * p) = 65536 * p := IntWalk.wrap64_in _ (by omega)
      by_cases hd : 65536 * p ≤ d
      · have hnext : ((lvZ d (k + 1) : Nat) : Int) = (k : Int) + 1 := by
          unfold lvZ
          rw [hpp, if_pos hd]
          omega
        have HN := hide hnext
        clear hnext hpp hx
        go_wp2_with fail
        refine hP.out.mono ?_
        rintro e w1 ⟨rfl, rfl⟩
        go_wp2_with fail
        go_round
        case rel => exact ⟨k + 1, hlt, by go_num, by rw [HN.out]⟩
        case measure => simp [intOf]; omega
      · have hnext : ((lvZ d (k + 1) : Nat) : Int) = x := by
          rw [← hx]
          conv => lhs; unfold lvZ
          rw [hpp, if_neg hd]
        have HN := hide hnext
        clear hnext hpp hx
        go_wp2_with fail
        refine hP.out.mono ?_
        rintro e w1 ⟨rfl, rfl⟩
        go_wp2_with fail
        go_round
        case rel => exact ⟨k + 1, hlt, by go_num, by rw [HN.out]⟩
        case measure => simp [intOf]; omega
    · have hl2 : ¬ (k : Int) + 1 ≤ mm := fun q => hlt (hki.1 q)
      obtain rfl : k = M := by omega
      have HX := Lib.hid hx
      clear hx
      go_wp2_with fail
      go_ret
      exact ⟨congrArg (fun z => Ending.returned (Value.int .i64 z)) HX.out.symm, rfl⟩
end Go.Proofs.Ytehkccogbgjcaaa
