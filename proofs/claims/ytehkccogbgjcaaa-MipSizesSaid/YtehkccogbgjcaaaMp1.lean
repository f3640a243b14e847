/-
Contracts of mip's side, levels and halved. No statement is proved here.
-/
import Derived.Test.YtehkccogbgjcaaaRows
import Derived.Test.YtehkccogbgjcaaaMp0
import Derived.Test.YtehkccogbgjcaaaNum
namespace Go.Proofs.Ytehkccogbgjcaaa
open Go.RowKit

theorem Side_any (x : Int) (w : World) : Calls Try.prog 66 #[.int .i64 x] w fun e w' => e = .returned (.bool (decide (1 ≤ x ∧ x ≤ 32768))) ∧ w = w' := by
  obtain ⟨g, hg⟩ : ∃ g, decide (1 ≤ x ∧ x ≤ 32768) = g := ⟨_, rfl⟩
  rw [hg]
  by_cases a1 : 1 ≤ x
  · have hf : decide (x ≤ 32768) = g := by rw [← hg]; exact decide_eq_decide.2 ⟨fun h => ⟨a1, h⟩, fun h => h.2⟩
    clear hg
    go_enter Try.func66, Try.ntmps66
    go_wp2_with fail
    go_ret
    exact ⟨rfl, rfl⟩
  · obtain rfl : false = g := by rw [← hg]; exact (decide_eq_false fun h => a1 h.1).symm
    clear hg
    go_enter Try.func66, Try.ntmps66
    go_wp2_with fail
    go_ret
    exact ⟨rfl, rfl⟩
theorem Levels_any (x : Int) (w : World) : Calls Try.prog 67 #[.int .i64 x] w fun e w' => e = .returned (.bool (decide (0 ≤ x ∧ x ≤ 15))) ∧ w = w' := by
  obtain ⟨g, hg⟩ : ∃ g, decide (0 ≤ x ∧ x ≤ 15) = g := ⟨_, rfl⟩
  rw [hg]
  by_cases a1 : 0 ≤ x
  · have hf : decide (x ≤ 15) = g := by rw [← hg]; exact decide_eq_decide.2 ⟨fun h => ⟨a1, h⟩, fun h => h.2⟩
    clear hg
    go_enter Try.func67, Try.ntmps67
    go_wp2_with fail
    go_ret
    exact ⟨rfl, rfl⟩
  · obtain rfl : false = g := by rw [← hg]; exact (decide_eq_false fun h => a1 h.1).symm
    clear hg
    go_enter Try.func67, Try.ntmps67
    go_wp2_with fail
    go_ret
    exact ⟨rfl, rfl⟩
theorem Halved_any (n : Int) (k : Nat) (hn : 1 ≤ n ∧ n ≤ 32768) (hk : k ≤ 15) (w : World) : Calls Try.prog 68 #[.int .i64 n, .int .i64 k] w fun e w' => e = .returned (.int .i64 (hvZ n k)) ∧ w = w' := by
  have hp := pow15 hk
  have he := hv_eq (n := n) k
  generalize hvZ n k = z at *
  obtain ⟨p, hpp⟩ : ∃ p, (2 : Int) ^ k = p := ⟨_, rfl⟩
  rw [hpp] at hp he
  have h0 : wrap64 (2 ^ k) = p := by rw [hpp]; exact IntWalk.wrap64_in _ (by omega)
  have h1 : wrap64 p = p := IntWalk.wrap64_in _ (by omega)
  obtain ⟨x, hx⟩ : ∃ x, n + p = x := ⟨_, rfl⟩
  have h2 : wrap64 (n + p) = x := by rw [hx]; exact IntWalk.wrap64_in _ (by omega)
  rw [hx] at he
  obtain ⟨y, hy⟩ : ∃ y, x - 1 = y := ⟨_, rfl⟩
  have h3 : wrap64 (x - 1) = y := by rw [hy]; exact IntWalk.wrap64_in _ (by omega)
  rw [hy] at he
  have h4 : (0 : Int) ≤ (k : Int) := by omega
  have hm : min k 64 = k := by omega
  clear hn hk hp hx hy
  go_enter Try.func68, Try.ntmps68
  go_wp2_with fail
  go_ret
  exact ⟨rfl, rfl⟩
end Go.Proofs.Ytehkccogbgjcaaa
