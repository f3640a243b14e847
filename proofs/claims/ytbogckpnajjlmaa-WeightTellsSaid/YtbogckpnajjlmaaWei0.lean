/-
Weights, as functions of numbers. No program, no statement.
-/
import Derived.Test.YtbogckpnajjlmaaKit
import Derived.IntWalk
namespace Go.Proofs.Ytbogckpnajjlmaa
open Go.RowKit

/-- how much the pixels count that stand around a place -/
def outerZ (t : Int) : Int := -t * (256 - t) * (256 - t)
def innerZ (t : Int) : Int := (3 * t - 1280) * t * t + 33554432
theorem weights_all (t : Int) : outerZ t + innerZ t + innerZ (256 - t) + outerZ (256 - t) = 33554432 := by
  unfold outerZ innerZ
  grind
theorem outer_run : ∀ n : Fin 257, wrap64 (wrap64 (wrap64 (-(n.val : Int)) * wrap64 (256 - (n.val : Int))) * wrap64 (256 - (n.val : Int))) = outerZ (n.val : Int) ∧ -16777216 ≤ outerZ (n.val : Int) ∧ outerZ (n.val : Int) ≤ 0 := by decide +kernel
theorem inner_run : ∀ n : Fin 257, wrap64 (wrap64 (wrap64 (wrap64 (wrap64 (3 * (n.val : Int)) - 1280) * (n.val : Int)) * (n.val : Int)) + 33554432) = innerZ (n.val : Int) ∧ 0 ≤ innerZ (n.val : Int) ∧ innerZ (n.val : Int) ≤ 33554432 := by decide +kernel
theorem fin_of {t : Int} (h0 : 0 ≤ t) (h1 : t ≤ 256) : ∃ n : Fin 257, (n.val : Int) = t := ⟨⟨t.toNat, by omega⟩, by simp; omega⟩
theorem outer_bound {t : Int} (h0 : 0 ≤ t) (h1 : t ≤ 256) : -16777216 ≤ outerZ t ∧ outerZ t ≤ 0 := by
  obtain ⟨n, rfl⟩ := fin_of h0 h1
  exact (outer_run n).2
theorem inner_bound {t : Int} (h0 : 0 ≤ t) (h1 : t ≤ 256) : 0 ≤ innerZ t ∧ innerZ t ≤ 33554432 := by
  obtain ⟨n, rfl⟩ := fin_of h0 h1
  exact (inner_run n).2
/-- a sum as a byte -/
def byteZ (s c : Int) : Int := if c < 1 then 0 else min (max (Int.fdiv (s + s + c) (c + c)) 0) 255
theorem byteZ_in (s c : Int) : 0 ≤ byteZ s c ∧ byteZ s c ≤ 255 := by unfold byteZ; split <;> omega
/-- weights with bytes, together -/
def mixK (ws vs : List Int) : Nat → Int
  | 0 => 0
  | k + 1 => wrap64 (mixK ws vs k + wrap64 (ws.getD k 0 * vs.getD k 0))
end Go.Proofs.Ytbogckpnajjlmaa
