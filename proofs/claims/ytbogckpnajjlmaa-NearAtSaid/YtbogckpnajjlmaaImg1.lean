/-
Contracts of what is right of an image: package img, and its reference. No statement is proved here.
-/
import Derived.Test.YtbogckpnajjlmaaRows
import Derived.Test.YtbogckpnajjlmaaImg0
import Derived.IntWalk
import Derived.BigQuiet
import Derived.Deep.QuietTactic
namespace Go.Proofs.Ytbogckpnajjlmaa
open Go.RowKit

set_option maxHeartbeats 1000000 in
theorem size_any (x y c : Int) (w : World) : Calls Try.prog 71 #[.int .i64 x, .int .i64 y, .int .i64 c] w fun e w' => e = .returned (.int .i64 (fitsZ x y c)) ∧ w = w' := by
  by_cases k : c = 1 ∨ c = 3 ∨ c = 4
  · rcases k with rfl | rfl | rfl
    all_goals
      by_cases a1 : 32768 < x
      · rw [fits_lim (by simp) (by omega)]
        go_enter Try.func71, Try.ntmps71
        go_wp2_with fail
        go_ret
        exact ⟨rfl, rfl⟩
      · by_cases a2 : 32768 < y
        · rw [fits_lim (by simp) (by omega)]
          go_enter Try.func71, Try.ntmps71
          go_wp2_with fail
          go_ret
          exact ⟨rfl, rfl⟩
        · by_cases a3 : x < 1
          · rw [fits_low (by simp) (by omega) (by omega)]
            go_enter Try.func71, Try.ntmps71
            go_wp2_with fail
            go_ret
            exact ⟨rfl, rfl⟩
          · by_cases a4 : y < 1
            · rw [fits_low (by simp) (by omega) (by omega)]
              go_enter Try.func71, Try.ntmps71
              go_wp2_with fail
              go_ret
              exact ⟨rfl, rfl⟩
            · have hp := side_prod (w := x) (h := y) (by omega) (by omega)
              have hm : IntKind.i64.wrap (x * y) = x * y := IntWalk.i64_in _ (by omega)
              by_cases a5 : 4194304 < x * y
              · rw [fits_big (by simp) (by omega) (by omega) a5]
                go_enter Try.func71, Try.ntmps71
                go_wp2_with fail
                go_ret
                exact ⟨rfl, rfl⟩
              · rw [fits_ok (by simp) (by omega) (by omega) a5]
                go_enter Try.func71, Try.ntmps71
                go_wp2_with fail
                go_ret
                exact ⟨rfl, rfl⟩
  · rw [fits_c k]
    have b1 : (c == 1) = false := by rw [beq_eq_false_iff_ne]; omega
    have b2 : (c == 3) = false := by rw [beq_eq_false_iff_ne]; omega
    have b3 : (c == 4) = false := by rw [beq_eq_false_iff_ne]; omega
    have d1 : (c != 1) = true := by simp; omega
    have d2 : (c != 3) = true := by simp; omega
    have d3 : (c != 4) = true := by simp; omega
    clear k
    go_enter Try.func71, Try.ntmps71
    go_wp2_with fail
    go_ret
    exact ⟨rfl, rfl⟩

set_option maxHeartbeats 1000000 in
theorem Fits_any (x y c : Int) (w : World) : Calls Try.prog 51 #[.int .i64 x, .int .i64 y, .int .i64 c] w fun e w' => e = .returned (.int .i64 (fitsZ x y c)) ∧ w = w' := by
  by_cases k : c = 1 ∨ c = 3 ∨ c = 4
  · rcases k with rfl | rfl | rfl
    all_goals
      by_cases a1 : 32768 < x
      · rw [fits_lim (by simp) (by omega)]
        go_enter Try.func51, Try.ntmps51
        go_wp2_with fail
        go_ret
        exact ⟨rfl, rfl⟩
      · by_cases a2 : 32768 < y
        · rw [fits_lim (by simp) (by omega)]
          go_enter Try.func51, Try.ntmps51
          go_wp2_with fail
          go_ret
          exact ⟨rfl, rfl⟩
        · by_cases a3 : x < 1
          · rw [fits_low (by simp) (by omega) (by omega)]
            go_enter Try.func51, Try.ntmps51
            go_wp2_with fail
            go_ret
            exact ⟨rfl, rfl⟩
          · by_cases a4 : y < 1
            · rw [fits_low (by simp) (by omega) (by omega)]
              go_enter Try.func51, Try.ntmps51
              go_wp2_with fail
              go_ret
              exact ⟨rfl, rfl⟩
            · have hp := side_prod (w := x) (h := y) (by omega) (by omega)
              have hm : IntKind.i64.wrap (x * y) = x * y := IntWalk.i64_in _ (by omega)
              by_cases a5 : 4194304 < x * y
              · rw [fits_big (by simp) (by omega) (by omega) a5]
                go_enter Try.func51, Try.ntmps51
                go_wp2_with fail
                go_ret
                exact ⟨rfl, rfl⟩
              · rw [fits_ok (by simp) (by omega) (by omega) a5]
                go_enter Try.func51, Try.ntmps51
                go_wp2_with fail
                go_ret
                exact ⟨rfl, rfl⟩
  · rw [fits_c k]
    have b1 : (c == 1) = false := by rw [beq_eq_false_iff_ne]; omega
    have b2 : (c == 3) = false := by rw [beq_eq_false_iff_ne]; omega
    have b3 : (c == 4) = false := by rw [beq_eq_false_iff_ne]; omega
    have d1 : (c != 1) = true := by simp; omega
    have d2 : (c != 3) = true := by simp; omega
    have d3 : (c != 4) = true := by simp; omega
    clear k
    go_enter Try.func51, Try.ntmps51
    go_wp2_with fail
    go_ret
    exact ⟨rfl, rfl⟩


end Go.Proofs.Ytbogckpnajjlmaa
