/-
Halvings, as functions of numbers. No program, no statement.
-/
import Derived.Test.YtehkccogbgjcaaaKit
import Derived.IntWalk
import Derived.Test.YtehkccogbgjcaaaLev0
namespace Go.Proofs.Ytehkccogbgjcaaa
open Go.RowKit

/-- a number after some halvings, each rounded up -/
def hvZ (n : Int) : Nat → Int
  | 0 => n
  | k + 1 => (hvZ n k + 1) / 2
theorem hv_eq {n : Int} (k : Nat) : (n + 2 ^ k - 1) / 2 ^ k = hvZ n k := by
  induction k with
  | zero => simp [hvZ]
  | succ k ih =>
    have hp : (0 : Int) < 2 ^ k := Int.pow_pos (by decide)
    show _ = (hvZ n k + 1) / 2
    rw [← ih]
    have e1 : (n + 2 ^ k - 1) / 2 ^ k + 1 = (n + 2 ^ k - 1 + 1 * 2 ^ k) / 2 ^ k := (Int.add_mul_ediv_right _ _ (by omega)).symm
    rw [e1, Int.ediv_ediv_of_nonneg (by omega), ← Int.pow_succ]
    congr 1
    rw [Int.pow_succ]
    omega
theorem hv_bound {n : Int} (h : 1 ≤ n) (k : Nat) : 1 ≤ hvZ n k ∧ hvZ n k ≤ n := by
  induction k with
  | zero => exact ⟨h, Int.le_refl _⟩
  | succ k ih => show 1 ≤ (hvZ n k + 1) / 2 ∧ (hvZ n k + 1) / 2 ≤ n; omega
theorem hv_max (a b : Int) (k : Nat) : hvZ (max a b) k = max (hvZ a k) (hvZ b k) := by
  induction k with
  | zero => rfl
  | succ k ih => show (hvZ (max a b) k + 1) / 2 = max ((hvZ a k + 1) / 2) ((hvZ b k + 1) / 2); rw [ih]; omega
def rightM (w h k : Int) : Prop := 1 ≤ w ∧ w ≤ 32768 ∧ 1 ≤ h ∧ h ≤ 32768 ∧ 0 ≤ k ∧ k ≤ 15
instance (w h k : Int) : Decidable (rightM w h k) := by unfold rightM; infer_instance
/-- how many halvings there are, of at most n -/
def cntP (m : Int) (n k : Nat) : Prop := k ≤ n ∧ (∀ j, j < k → 1 < hvZ m j) ∧ (k = n ∨ hvZ m k ≤ 1)
def cntN (m : Int) : Nat → Nat
  | 0 => 0
  | n + 1 => if cntN m n = n ∧ 1 < hvZ m n then n + 1 else cntN m n
theorem cnt_is (m : Int) (n : Nat) : cntP m n (cntN m n) := by
  induction n with
  | zero => exact ⟨Nat.le_refl _, fun j hj => absurd hj (by simp [cntN]), Or.inl rfl⟩
  | succ n ih =>
    obtain ⟨h1, h2, h3⟩ := ih
    unfold cntN
    split
    · rename_i q
      refine ⟨Nat.le_refl _, fun j hj => ?_, Or.inl rfl⟩
      rcases Nat.lt_or_ge j n with t | t
      · exact h2 j (by omega)
      · obtain rfl : j = n := by omega
        exact q.2
    · rename_i q
      refine ⟨by omega, h2, ?_⟩
      rcases h3 with h3 | h3
      · rw [h3] at q
        have : ¬ 1 < hvZ m n := fun t => q ⟨rfl, t⟩
        rw [h3]
        exact Or.inr (by omega)
      · exact Or.inr h3
theorem cnt_one {m : Int} {n k : Nat} (h : cntP m n k) : cntN m n = k := by
  obtain ⟨a1, a2, a3⟩ := cnt_is m n
  obtain ⟨b1, b2, b3⟩ := h
  generalize cntN m n = c at *
  rcases Nat.lt_trichotomy c k with t | t | t
  · have := b2 c t
    omega
  · exact t
  · have := a2 k t
    omega
def sizeW (w h k : Int) : Int := if rightM w h k then hvZ w k.toNat else 0
def sizeH (w h k : Int) : Int := if rightM w h k then hvZ h k.toNat else 0
def countZ (w h n : Int) : Int := if rightM w h n then (cntN (max w h) n.toNat : Nat) + 1 else 0
end Go.Proofs.Ytehkccogbgjcaaa
