/-
Levels, as functions of numbers. No program, no statement.
-/
import Derived.Test.YtehkccogbgjcaaaKit
namespace Go.Proofs.Ytehkccogbgjcaaa
open Go.RowKit

/-- the level of a distance, of at most n -/
def lvZ (d : Int) : Nat → Nat
  | 0 => 0
  | n + 1 => if 65536 * (2 : Int) ^ (n + 1) ≤ d then n + 1 else lvZ d n
theorem lvZ_le (d : Int) (n : Nat) : lvZ d n ≤ n := by
  induction n with
  | zero => exact Nat.le_refl _
  | succ n ih => unfold lvZ; split <;> omega
theorem pow2_le {a b : Nat} (h : a ≤ b) : (2 : Int) ^ a ≤ 2 ^ b := by
  obtain ⟨k, rfl⟩ := Nat.exists_eq_add_of_le h
  rw [Int.pow_add]
  have h1 : (0 : Int) < 2 ^ a := Int.pow_pos (by decide)
  have h2 : (0 : Int) < 2 ^ k := Int.pow_pos (by decide)
  have : (2 : Int) ^ a * 1 ≤ 2 ^ a * 2 ^ k := Int.mul_le_mul_of_nonneg_left (by omega) (by omega)
  omega
theorem lvZ_eq {d : Int} {n k : Nat} (hk : k ≤ n) (h1 : k = 0 ∨ 65536 * (2 : Int) ^ k ≤ d) (h2 : k = n ∨ d < 65536 * (2 : Int) ^ (k + 1)) : lvZ d n = k := by
  induction n with
  | zero => unfold lvZ; omega
  | succ n ih =>
    unfold lvZ
    split
    · rename_i h
      rcases h2 with h2 | h2
      · omega
      · rcases Nat.lt_or_ge k (n + 1) with q | q
        · have := pow2_le (show k + 1 ≤ n + 1 by omega)
          omega
        · omega
    · rename_i h
      rcases Nat.lt_or_ge k (n + 1) with q | q
      · refine ih (by omega) ?_
        rcases h2 with h2 | h2
        · omega
        · exact Or.inr h2
      · obtain rfl : k = n + 1 := by omega
        rcases h1 with h1 | h1
        · omega
        · exact absurd h1 h
theorem lvZ_mono {d e : Int} (h : d ≤ e) (n : Nat) : lvZ d n ≤ lvZ e n := by
  induction n with
  | zero => exact Nat.le_refl _
  | succ n ih =>
    unfold lvZ
    split
    · rw [if_pos (by omega)]; exact Nat.le_refl _
    · split
      · have := lvZ_le d n; omega
      · exact ih
/-- the greatest level that may be picked -/
def mostZ (most : Int) : Nat := (min most 15).toNat
def pickZ (d most : Int) : Int := (lvZ d (mostZ most) : Nat)
theorem mostZ_le (most : Int) : mostZ most ≤ 15 := by unfold mostZ; omega
theorem pickZ_mono {d e : Int} (h : d ≤ e) (m : Int) : pickZ d m ≤ pickZ e m := Int.ofNat_le.2 (lvZ_mono h _)
/-- the image that is nearest to a number -/
def cutZ (k : Int) : Nat := (max 0 (min k 15)).toNat
def toZ (u k : Int) : Int := (u - 32768 * (2 ^ cutZ k - 1)) / 2 ^ cutZ k
def fromZ (u k : Int) : Int := u * 2 ^ cutZ k + 32768 * (2 ^ cutZ k - 1)
theorem pow15 {n : Nat} (h : n ≤ 15) : (1 : Int) ≤ 2 ^ n ∧ (2 : Int) ^ n ≤ 32768 := by
  have h1 : (0 : Int) < 2 ^ n := Int.pow_pos (by decide)
  have := pow2_le h
  exact ⟨by omega, by simpa using this⟩
theorem cutZ_le (k : Int) : cutZ k ≤ 15 := by unfold cutZ; omega
theorem to_from (u k : Int) : toZ (fromZ u k) k = u := by
  unfold toZ fromZ
  have h := pow15 (cutZ_le k)
  generalize (2 : Int) ^ cutZ k = p at *
  rw [Int.add_sub_cancel]
  exact Int.mul_ediv_cancel _ (by omega)

end Go.Proofs.Ytehkccogbgjcaaa
