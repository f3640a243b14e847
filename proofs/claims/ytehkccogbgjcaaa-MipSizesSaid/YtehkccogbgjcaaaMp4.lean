/-
Contracts of the reference of layer 31: right, Size. No statement is proved here.
-/
import Derived.Test.YtehkccogbgjcaaaRows
import Derived.Test.YtehkccogbgjcaaaMp0
import Derived.Test.YtehkccogbgjcaaaNum
namespace Go.Proofs.Ytehkccogbgjcaaa
open Go.RowKit

theorem RightM_any (w0 h0 k0 : Int) (w : World) : Calls Try.prog 69 #[.int .i64 w0, .int .i64 h0, .int .i64 k0] w fun e w' => e = .returned (.bool (decide (rightM w0 h0 k0))) ∧ w = w' := by
  obtain ⟨g, hg⟩ : ∃ g, decide (rightM w0 h0 k0) = g := ⟨_, rfl⟩
  rw [hg]
  have HG := hide (show ∀ b : Bool, (b = true ↔ rightM w0 h0 k0) → b = g from fun b hb => by
    rw [← hg]
    cases b
    · exact (decide_eq_false (fun t => by cases hb.2 t)).symm
    · exact (decide_eq_true (hb.1 rfl)).symm)
  clear hg
  unfold rightM at HG
  by_cases a1 : 1 ≤ w0
  · by_cases a2 : w0 ≤ 32768
    · by_cases a3 : 1 ≤ h0
      · by_cases a4 : h0 ≤ 32768
        · by_cases a5 : 0 ≤ k0
          · have hf : decide (k0 ≤ 15) = g := HG.out _ (by simp; omega)
            go_enter Try.func69, Try.ntmps69
            go_wp2_with fail
            go_ret
            exact ⟨rfl, rfl⟩
          · obtain rfl := HG.out false (by simp; omega)
            clear HG
            go_enter Try.func69, Try.ntmps69
            go_wp2_with fail
            go_ret
            exact ⟨rfl, rfl⟩
        · obtain rfl := HG.out false (by simp; omega)
          clear HG
          go_enter Try.func69, Try.ntmps69
          go_wp2_with fail
          go_ret
          exact ⟨rfl, rfl⟩
      · obtain rfl := HG.out false (by simp; omega)
        clear HG
        go_enter Try.func69, Try.ntmps69
        go_wp2_with fail
        go_ret
        exact ⟨rfl, rfl⟩
    · obtain rfl := HG.out false (by simp; omega)
      clear HG
      go_enter Try.func69, Try.ntmps69
      go_wp2_with fail
      go_ret
      exact ⟨rfl, rfl⟩
  · obtain rfl := HG.out false (by simp; omega)
    clear HG
    go_enter Try.func69, Try.ntmps69
    go_wp2_with fail
    go_ret
    exact ⟨rfl, rfl⟩

set_option maxHeartbeats 1000000 in
theorem RSize_any (w0 h0 k0 : Int) (w : World) : Calls Try.prog 37 #[.int .i64 w0, .int .i64 h0, .int .i64 k0] w fun e w' => e = .returned (.tuple #[.int .i64 (sizeW w0 h0 k0), .int .i64 (sizeH w0 h0 k0)]) ∧ w = w' := by
  have HR := hide (RightM_any w0 h0 k0)
  by_cases hr : rightM w0 h0 k0
  · rw [decide_eq_true hr] at HR
    unfold sizeW sizeH
    rw [if_pos hr, if_pos hr]
    obtain ⟨a1, a2, a3, a4, a5, a6⟩ := hr
    obtain ⟨k, hk⟩ : ∃ k : Nat, k0 = k := ⟨k0.toNat, by omega⟩
    subst hk
    rw [Int.toNat_natCast]
    have G1 := hide (fun j => hv_bound a1 j)
    have G2 := hide (fun j => hv_bound a3 j)
    have HK := hide (show k ≤ 15 by omega)
    clear a5 a6
    go_enter Try.func37, Try.ntmps37
    go_wp2_with fail
    refine (HR.out _).mono ?_
    rintro e w1 ⟨rfl, rfl⟩
    go_wp2_with fail
    go_loop [8, 9, 10] (fun a b i => ∃ j : Nat, j ≤ k ∧ i = .int .i64 j ∧ a = .int .i64 (hvZ w0 j) ∧ b = .int .i64 (hvZ h0 j)) (fun _ _ i => k - (intOf i).toNat)
    case atStart => exact ⟨0, Nat.zero_le _, rfl, rfl, rfl⟩
    case round =>
      obtain ⟨j, hj, rfl, rfl, rfl⟩ := hrel
      have b1 := G1.out j
      have b2 := G2.out j
      have hkk := HK.out
      have n1 := hide (show hvZ w0 (j + 1) = (hvZ w0 j + 1) / 2 from rfl)
      have n2 := hide (show hvZ h0 (j + 1) = (hvZ h0 j + 1) / 2 from rfl)
      by_cases hlt : j < k
      · generalize hvZ w0 j = p at *
        generalize hvZ h0 j = q at *
        have t1 : Int.tdiv (p + 1) 2 = (p + 1) / 2 := Int.tdiv_eq_ediv_of_nonneg (by omega)
        have t2 : Int.tdiv (q + 1) 2 = (q + 1) / 2 := Int.tdiv_eq_ediv_of_nonneg (by omega)
        go_wp2_with fail
        go_round
        case rel => exact ⟨j + 1, by omega, by go_num, by rw [n1.out], by rw [n2.out]⟩
        case measure => simp [intOf]; omega
      · obtain rfl : j = k := by omega
        go_wp2_with fail
        refine bodyPost_ret (v := .tuple #[.int .i64 (hvZ w0 j), .int .i64 (hvZ h0 j)]) (by simp [results, Try.results37, go_sem]) rfl ⟨rfl, rfl⟩
  · rw [decide_eq_false hr] at HR
    unfold sizeW sizeH
    rw [if_neg hr, if_neg hr]
    clear hr
    go_enter Try.func37, Try.ntmps37
    go_wp2_with fail
    refine (HR.out _).mono ?_
    rintro e w1 ⟨rfl, rfl⟩
    go_wp2_with fail
    refine bodyPost_ret (v := .tuple #[.int .i64 0, .int .i64 0]) (by simp [results, Try.results37, go_sem]) rfl ⟨rfl, rfl⟩

end Go.Proofs.Ytehkccogbgjcaaa
