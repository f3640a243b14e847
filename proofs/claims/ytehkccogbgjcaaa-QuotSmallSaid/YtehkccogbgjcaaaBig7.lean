/-
Contracts of the reference's whole numbers: Fits, Wide. No statement is proved here.
-/
import Derived.Test.YtehkccogbgjcaaaBig6
namespace Go.Proofs.Ytehkccogbgjcaaa
open Go.RowKit

/-- one box for the argument -/
def One (w : World) (s : Bool) (A : Option Addr) (n c : Nat) : World := w.alloc (.cells #[.bool s, .slice A n c] 24)
theorem One.below (w : World) (s : Bool) (A : Option Addr) (n c : Nat) : Below w.heap.size w (One w s A n c) := below_alloc w _
theorem One.size (w : World) (s : Bool) (A : Option Addr) (n c : Nat) : (One w s A n c).heap.size = w.heap.size + 1 := by simp [One]
theorem One.start (w : World) (s : Bool) (A : Option Addr) (n c : Nat) : Bel (One w s A n c) (w.alloc (.cells #[.bool s, .slice A n c] 24)) := Bel.refl _
theorem One.args (w : World) (s : Bool) (A : Option Addr) (n c : Nat) (w' : World) (h : Bel (One w s A n c) w') : w'.cell? ⟨w.heap.size, 0, none⟩ = some (.bool s) ∧ w'.cell? ⟨w.heap.size, 1, none⟩ = some (.slice A n c) := by
  have hz := One.size w s A n c
  constructor
  · rw [h.cell 0 (by omega)]; simp [One, go_sem]
  · rw [h.cell 1 (by omega)]; simp [One, go_sem]

end Go.Proofs.Ytehkccogbgjcaaa
