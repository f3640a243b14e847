/-
Lenses: how far a place is seen, as functions of numbers. No program, no statement.
-/
import Derived.Test.YtehkccogbgjcaaaKit
import Derived.IntWalk
namespace Go.Proofs.Ytehkccogbgjcaaa

/-- how far a place is seen from the middle, one way -/
def asideZ (p d m f : Int) : Int := Int.fdiv (Int.fdiv (65536 * p) d - m) f

theorem fdiv_mono {p d p' d' : Int} (hd : 0 < d) (hd' : 0 < d') (h : p * d' ≤ p' * d) : Int.fdiv p d ≤ Int.fdiv p' d' := by
  rw [Int.fdiv_eq_ediv_of_nonneg _ (by omega), Int.fdiv_eq_ediv_of_nonneg _ (by omega)]
  rw [Int.le_ediv_iff_mul_le hd']
  have h1 : p / d * d ≤ p := Int.ediv_mul_le _ (by omega)
  have h2 : p / d * d * d' ≤ p * d' := Int.mul_le_mul_of_nonneg_right h1 (by omega)
  have h3 : p / d * d' * d ≤ p' * d := by
    have : p / d * d' * d = p / d * d * d' := by rw [Int.mul_assoc, Int.mul_comm d' d, ← Int.mul_assoc]
    omega
  exact Int.le_of_mul_le_mul_right h3 hd

theorem aside_mono {p d p' d' m f : Int} (hd : 0 < d) (hd' : 0 < d') (hf : 0 < f) (h : p * d' ≤ p' * d) : asideZ p d m f ≤ asideZ p' d' m f := by
  have h1 : Int.fdiv (65536 * p) d ≤ Int.fdiv (65536 * p') d' := fdiv_mono hd hd' (by rw [Int.mul_assoc, Int.mul_assoc]; omega)
  exact fdiv_mono hf hf (Int.mul_le_mul_of_nonneg_right (by omega) (by omega))

/-- a quotient by a number above 0 is no further from 0 than what is divided, or -1 -/
theorem fdiv_bound {p d B : Int} (hd : 1 ≤ d) (h : -B ≤ p ∧ p ≤ B) : -B ≤ Int.fdiv p d ∧ Int.fdiv p d ≤ B := by
  rw [Int.fdiv_eq_ediv_of_nonneg _ (by omega)]
  constructor
  · rw [Int.le_ediv_iff_mul_le (by omega)]
    rcases Int.lt_or_le B 0 with hB | hB
    · omega
    · have : B * 1 ≤ B * d := Int.mul_le_mul_of_nonneg_left hd hB
      have e : -B * d = -(B * d) := Int.neg_mul _ _
      omega
  · rcases Int.lt_or_le p 0 with hp | hp
    · have : p / d < 0 := Int.ediv_neg_of_neg_of_pos hp (by omega)
      omega
    · have : p / d ≤ p := Int.ediv_le_self _ hp
      omega

/-- whether a number is no further from 0 than another one -/
def InZ (x m : Int) : Prop := -m ≤ x ∧ x ≤ m
instance (x m : Int) : Decidable (InZ x m) := by unfold InZ; infer_instance
/-- whether a place may be asked for -/
def RightZ (x y d : Int) : Prop := InZ x 1048576 ∧ InZ y 1048576 ∧ 1 ≤ d ∧ d ≤ 16
instance (x y d : Int) : Decidable (RightZ x y d) := by unfold RightZ; infer_instance

/-- what is wrong with a lens's numbers, or with a size, each by itself -/
def lensC (cs : List Int) (w h : Int) : Int :=
  if cs.length ≠ 7 then 12
  else if ¬ InZ (cs.getD 0 0) 2147483648 ∨ ¬ InZ (cs.getD 1 0) 2147483648 ∨ cs.getD 2 0 < 1 ∨ 32768 < cs.getD 2 0 ∨ ¬ InZ (cs.getD 3 0) 65536 ∨ ¬ InZ (cs.getD 4 0) 65536 ∨ ¬ InZ (cs.getD 5 0) 65536 ∨ ¬ InZ (cs.getD 6 0) 65536 then 11
  else if w < 1 ∨ 32768 < w ∨ h < 1 ∨ 32768 < h then 30 else 0
/-- whether a place is seen by a right lens -/
def seenZ (cs : List Int) (x y d : Int) : Prop := InZ (asideZ x d (cs.getD 0 0) (cs.getD 2 0)) 262144 ∧ InZ (asideZ y d (cs.getD 1 0) (cs.getD 2 0)) 262144
instance (cs : List Int) (x y d : Int) : Decidable (seenZ cs x y d) := by unfold seenZ; infer_instance
/-- what is wrong with a lens -/
def lensE (cs : List Int) (w h : Int) : Int :=
  if lensC cs w h ≠ 0 then lensC cs w h else if seenZ cs (-1) (-1) 2 ∧ seenZ cs (2 * w - 1) (2 * h - 1) 2 then 0 else 11

theorem lensC_zero {cs : List Int} {w h : Int} (k : lensC cs w h = 0) : cs.length = 7 ∧ InZ (cs.getD 0 0) 2147483648 ∧ InZ (cs.getD 1 0) 2147483648 ∧ (1 ≤ cs.getD 2 0 ∧ cs.getD 2 0 ≤ 32768) ∧
    InZ (cs.getD 3 0) 65536 ∧ InZ (cs.getD 4 0) 65536 ∧ InZ (cs.getD 5 0) 65536 ∧ InZ (cs.getD 6 0) 65536 ∧ 1 ≤ w ∧ w ≤ 32768 ∧ 1 ≤ h ∧ h ≤ 32768 := by
  unfold lensC at k
  by_cases h1 : cs.length = 7
  · rw [if_neg (by simpa using h1)] at k
    split at k
    · omega
    · rename_i h2
      split at k
      · omega
      · rename_i h3
        simp only [not_or, Decidable.not_not] at h2
        exact ⟨h1, h2.1, h2.2.1, by omega, h2.2.2.2.2.1, h2.2.2.2.2.2.1, h2.2.2.2.2.2.2.1, h2.2.2.2.2.2.2.2, by omega, by omega, by omega, by omega⟩
  · rw [if_pos h1] at k; omega

/-- each place within the image, and half a pixel around it, is seen -/
theorem lens_in {cs : List Int} {w h x y d : Int} (k : lensE cs w h = 0) (hd : 1 ≤ d) (x1 : -d ≤ 2 * x) (x2 : 2 * x ≤ (2 * w - 1) * d) (y1 : -d ≤ 2 * y) (y2 : 2 * y ≤ (2 * h - 1) * d) : seenZ cs x y d := by
  unfold lensE at k
  by_cases h0 : lensC cs w h = 0
  · rw [if_neg (by simpa using h0)] at k
    obtain ⟨_, _, _, hf, _⟩ := lensC_zero h0
    split at k
    · rename_i hs
      obtain ⟨⟨s1, s2⟩, s3, s4⟩ := hs
      have a1 := aside_mono (p := -1) (d := 2) (p' := x) (d' := d) (m := cs.getD 0 0) (f := cs.getD 2 0) (by omega) (by omega) (by omega) (by omega)
      have a2 := aside_mono (p := x) (d := d) (p' := 2 * w - 1) (d' := 2) (m := cs.getD 0 0) (f := cs.getD 2 0) (by omega) (by omega) (by omega) (by omega)
      have a3 := aside_mono (p := -1) (d := 2) (p' := y) (d' := d) (m := cs.getD 1 0) (f := cs.getD 2 0) (by omega) (by omega) (by omega) (by omega)
      have a4 := aside_mono (p := y) (d := d) (p' := 2 * h - 1) (d' := 2) (m := cs.getD 1 0) (f := cs.getD 2 0) (by omega) (by omega) (by omega) (by omega)
      unfold InZ at s1 s2 s3 s4
      unfold seenZ InZ
      omega
    · omega
  · rw [if_pos h0] at k
    exact absurd k h0
end Go.Proofs.Ytehkccogbgjcaaa
