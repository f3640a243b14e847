/-
Contracts of level.Pick. No statement is proved here.
-/
import Derived.Test.YtehkccogbgjcaaaLev1
namespace Go.Proofs.Ytehkccogbgjcaaa
open Go.RowKit

set_option maxHeartbeats 1000000 in
theorem Pick_any (d m : Int) (w : World) : Calls Try.prog 41 #[.int .i64 d, .int .i64 m] w fun e w' => e = .returned (.int .i64 (pickZ d m)) ∧ w = w' := by
  have hM := mostZ_le m
  have hmin : ∀ k : Nat, (k : Int) < min m 15 ↔ k < mostZ m := fun k => by unfold mostZ; omega
  have hfin := hide (fun k (hk : k ≤ mostZ m) (h1 : k = 0 ∨ 65536 * (2 : Int) ^ k ≤ d) (h2 : k = mostZ m ∨ d < 65536 * (2 : Int) ^ (k + 1)) => congrArg (fun n : Nat => (n : Int)) (lvZ_eq hk h1 h2))
  show Calls _ _ _ _ fun e w' => e = .returned (.int .i64 (lvZ d (mostZ m) : Nat)) ∧ w = w'
  obtain ⟨r, hr⟩ : ∃ r : Int, (lvZ d (mostZ m) : Nat) = r := ⟨_, rfl⟩
  rw [hr]
  rw [hr] at hfin
  clear hr
  obtain ⟨mm, hmm⟩ : ∃ mm, min m 15 = mm := ⟨_, rfl⟩
  obtain ⟨M, hMM⟩ : ∃ M, mostZ m = M := ⟨_, rfl⟩
  rw [hMM, hmm] at hmin
  rw [hMM] at hM hfin
  clear hMM
  have HI := hide hmin
  clear hmin
  go_enter Try.func41, Try.ntmps41
  go_wp2_with fail
  go_loop [5] (fun b => ∃ k : Nat, k ≤ M ∧ b = .int .i64 k ∧ (k = 0 ∨ 65536 * (2 : Int) ^ k ≤ d)) (fun b => M - (intOf b).toNat)
  case atStart => exact ⟨0, Nat.zero_le _, rfl, Or.inl rfl⟩
  case round =>
    obtain ⟨k, hk, rfl, h1⟩ := hrel
    have H1 := Lib.hid h1
    have hif := if_min m 15
    have hki := HI.out k
    clear h1
    by_cases hlt : k < M
    · have hl2 : (k : Int) < mm := hki.2 hlt
      have hs : wrap64 (65536 * 2 ^ (k + 1)) = 65536 * 2 ^ (k + 1) := by
        have := pow15 (n := k + 1) (by omega)
        exact IntWalk.wrap64_in _ (by omega)
      by_cases hd : 65536 * (2 : Int) ^ (k + 1) ≤ d
      · have HD := Lib.hid hd
        have hd' := hd
        rw [← hs] at hd'
        clear hs hd
        go_wp2_with fail
        go_round
        case rel => exact ⟨k + 1, hlt, by go_num, Or.inr HD.out⟩
        case measure => simp [intOf]; omega
      · have HD := Lib.hid hd
        have hd' := hd
        rw [← hs] at hd'
        clear hs hd
        go_wp2_with fail
        go_ret
        exact ⟨congrArg (fun z => Ending.returned (Value.int .i64 z)) (hfin.out k hk H1.out (Or.inr (by have := HD.out; omega))).symm, rfl⟩
    · have hl2 : ¬ (k : Int) < mm := fun q => hlt (hki.1 q)
      go_wp2_with fail
      go_ret
      exact ⟨congrArg (fun z => Ending.returned (Value.int .i64 z)) (hfin.out k hk H1.out (Or.inl (by omega))).symm, rfl⟩
end Go.Proofs.Ytehkccogbgjcaaa
