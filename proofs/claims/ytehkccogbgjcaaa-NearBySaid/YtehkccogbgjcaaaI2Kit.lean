/-
Numbers of 64 bits as one argument (an array of 2), opened. No statement is proved here.
-/
import Derived.Test.YtehkccogbgjcaaaIntsKit
namespace Go.Proofs.Ytehkccogbgjcaaa
open Go.ChangeShapes Go.WideShapes Go.ChangeAt Go.RowKit Go.Joins

set_option maxRecDepth 100000 in
theorem cells2w : Try.prog.cellsOf 34 = 2 := by kernel_rfl
theorem list2w {α : Type} (l : List α) (h : l.length = 2) : ∃ a b, l = [a, b] := by
  match l, h with
  | [a, b], _ => exact ⟨a, b, rfl⟩
set_option maxRecDepth 100000 in
theorem open_i64s2 {H : Type} {enc : TypeId × Value → H} {w : World} {base b0 : Nat} {spare : Nat → Bool} {held : Bool} {v : Value} {d : DataW H} {p : List MemPlace} (hv : Value.okWide Try.prog w .any b0 34 v) (h : DataW.Trod enc Try.prog w base spare held 34 v d p) :
    ∃ x y : Int, v = .agg #[.int .i64 x, .int .i64 y] ∧ isI64 x ∧ isI64 y := by
  obtain ⟨cs, rfl, hsz, _⟩ : ∃ cs, v = .agg cs ∧ cs.size = Try.prog.cellsOf 34 ∧ Row.okWide Try.prog w .any b0 34 cs := by
    simpa [Value.okWide, Try.underlying34] using hv
  rw [cells2w] at hsz
  obtain ⟨l⟩ := cs
  obtain ⟨c0, c1, rfl⟩ := list2w l hsz
  obtain ⟨fuel, hf⟩ := h
  obtain ⟨xs, m, rfl, hx, _, hl, hel⟩ := DataW.trod_array Try.underlying34 hf
  obtain ⟨y0, y1, rfl⟩ := list2w xs hl
  have h0 := hel 0 (by omega)
  have h1 := hel 1 (by omega)
  simp [cellsI64, Value.cells] at h0 h1
  obtain ⟨a0, e0, _, wa0⟩ := DataW.trod_int Try.underlying2 h0
  obtain ⟨a1, e1, _, wa1⟩ := DataW.trod_int Try.underlying2 h1
  simp at e0 e1
  subst e0 e1
  exact ⟨a0, a1, rfl, isI64_wf wa0, isI64_wf wa1⟩

end Go.Proofs.Ytehkccogbgjcaaa
