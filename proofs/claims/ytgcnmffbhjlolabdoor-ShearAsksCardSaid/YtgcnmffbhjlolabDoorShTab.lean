/-
The table that the program lays at its start: its four numbers in memory. No statement is proved here.
-/
import Derived.Test.YtgcnmffbhjlolabDoorPost2
import Derived.Test.YtgcnmffbhjlolabDoorShr2
import Derived.Test.YtgcnmffbhjlolabDoorTie
import Derived.Test.YtgcnmffbhjlolabDoorCards
import Derived.SevenTiedAt
import Derived.ChangeBears2
import Derived.Lay
import Derived.MakeChecks
import Derived.WalkKit
import Derived.Handy
namespace Go.Proofs.YtgcnmffbhjlolabDoor
open Go.ChangeShapes Go.WideShapes Go.ChangeAt Go.RowKit Go.Joins

theorem four_of {α : Type} (l : List α) (h : l.length = 4) : ∃ a b c d, l = [a, b, c, d] := by
  match l, h with
  | [a, b, c, d], _ => exact ⟨a, b, c, d, rfl⟩
set_option maxRecDepth 100000 in
theorem cells4i : Tryd.prog.cellsOf 58 = 4 := by kernel_rfl
theorem cells1i : Tryd.prog.cellsOf 2 = 1 := by kernel_rfl
set_option maxRecDepth 100000 in
theorem Tab_of {W : World} (h : laidMetH Tryd.prog [("anamorph/shear.most", Rows.laid_anamorph_shear_most)] W) : Tab W := by
  rw [MakeChecks.laidMetH_plain _ _ _ (by kernel_rfl)] at h
  obtain ⟨ps, ⟨g, t, cs, fuel, p, q, e1, e2, e3, e4, _, _⟩, _, _⟩ := h
  obtain rfl : 0 = g := Option.some.inj ((show Tryd.prog.globalNamed "anamorph/shear.most" = some 0 by kernel_rfl).symm.trans e1)
  obtain rfl : 58 = t := Option.some.inj ((show (Tryd.prog.globals[0]?).map (·.type) = some 58 by kernel_rfl).symm.trans e2)
  have hc := fun off => World.var?_cell e1 e3 off
  obtain ⟨cs⟩ := cs
  obtain ⟨xs, m, rfl, hx, hlen, hl, hel⟩ := DataW.trod_array Tryd.underlying58 e4
  rw [cells4i] at hlen
  obtain ⟨v0, v1, v2, v3, hv⟩ := four_of _ hlen
  obtain rfl : cs = [v0, v1, v2, v3] := hv
  obtain ⟨y0, y1, y2, y3, rfl⟩ := four_of xs hl
  have h0 := hel 0 (by omega)
  have h1 := hel 1 (by omega)
  have h2 := hel 2 (by omega)
  have h3 := hel 3 (by omega)
  simp [cells1i] at h0 h1 h2 h3
  obtain ⟨a, f0, g0, _⟩ := DataW.trod_int Tryd.underlying2 h0
  obtain ⟨b, f1, g1, _⟩ := DataW.trod_int Tryd.underlying2 h1
  obtain ⟨c, f2, g2, _⟩ := DataW.trod_int Tryd.underlying2 h2
  obtain ⟨d, f3, g3, _⟩ := DataW.trod_int Tryd.underlying2 h3
  simp at f0 f1 f2 f3
  subst f0 f1 f2 f3 g0 g1 g2 g3
  simp [Rows.laid_anamorph_shear_most] at hx
  obtain ⟨⟨rfl, rfl, rfl, rfl⟩, _⟩ := hx
  refine ⟨block_lt_of_cell (hc 0), fun i hi => ?_⟩
  rw [hc i]
  match i, hi with
  | 0, _ => rfl
  | 1, _ => rfl
  | 2, _ => rfl
  | 3, _ => rfl
end Go.Proofs.YtgcnmffbhjlolabDoor
