/-
A border (a number and four bytes) as an argument, opened. No statement is proved here.
-/
import Derived.Test.YtbogckpnajjlmaaPost2
import Derived.Laws.IdiomArrays
namespace Go.Proofs.Ytbogckpnajjlmaa
open Go.ChangeShapes Go.WideShapes Go.ChangeAt Go.RowKit Go.Joins

set_option maxRecDepth 100000 in
theorem cellsBorder : Try.prog.cellsOf 41 = 5 := by kernel_rfl
set_option maxRecDepth 100000 in
theorem cellsU84 : Try.prog.cellsOf 39 = 4 := by kernel_rfl
set_option maxRecDepth 100000 in
theorem cellsU81 : Try.prog.cellsOf 5 = 1 := by kernel_rfl
set_option maxRecDepth 100000 in
theorem cellsInt1 : Try.prog.cellsOf 3 = 1 := by kernel_rfl
theorem list5 {α : Type} (l : List α) (h : l.length = 5) : ∃ a b c d e, l = [a, b, c, d, e] := by
  match l, h with
  | [a, b, c, d, e], _ => exact ⟨a, b, c, d, e, rfl⟩
set_option maxRecDepth 100000 in
theorem open_border {H : Type} {enc : TypeId × Value → H} {w : World} {base b0 : Nat} {spare : Nat → Bool} {held : Bool} {v : Value} {d : DataW H} {p : List MemPlace} (hv : Value.okWide Try.prog w .any b0 41 v) (h : DataW.Trod enc Try.prog w base spare held 41 v d p) :
    ∃ m a b c d : Int, v = .agg #[.int .i64 m, .int .u8 a, .int .u8 b, .int .u8 c, .int .u8 d] ∧ ∀ z ∈ [a, b, c, d], 0 ≤ z ∧ z ≤ 255 := by
  obtain ⟨cs, rfl, hsz⟩ := okWide_struct Try.underlying41 hv
  rw [cellsBorder] at hsz
  obtain ⟨l⟩ := cs
  obtain ⟨c0, c1, c2, c3, c4, rfl⟩ := list5 l hsz
  obtain ⟨fuel, hf⟩ := h
  obtain ⟨y0, y1, n, hx, _, h0, h1⟩ := trod_struct2 Try.underlying41 hf
  simp [Value.cells, cellsInt1] at h0
  simp [Value.cells, cellsU84] at h1
  obtain ⟨z0, z1, z2, z3, n', _, g0, g1, g2, g3⟩ := trod_array4 Try.underlying39 cellsU81 h1
  obtain ⟨m, e0, _, _⟩ := DataW.trod_int Try.underlying3 h0
  obtain ⟨a, e1, _, wa⟩ := DataW.trod_int Try.underlying5 g0
  obtain ⟨b, e2, _, wb⟩ := DataW.trod_int Try.underlying5 g1
  obtain ⟨c, e3, _, wc⟩ := DataW.trod_int Try.underlying5 g2
  obtain ⟨d', e4, _, wd⟩ := DataW.trod_int Try.underlying5 g3
  simp at e0 e1 e2 e3 e4
  subst e0 e1 e2 e3 e4
  refine ⟨m, a, b, c, d', rfl, fun z hz => ?_⟩
  simp at hz
  rcases hz with rfl | rfl | rfl | rfl
  · exact bounds_u8 wa
  · exact bounds_u8 wb
  · exact bounds_u8 wc
  · exact bounds_u8 wd

end Go.Proofs.Ytbogckpnajjlmaa
