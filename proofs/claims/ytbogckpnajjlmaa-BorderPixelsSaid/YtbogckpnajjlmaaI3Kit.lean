/-
Numbers of 64 bits as one argument (an array of 3), opened. No statement is proved here.
-/
import Derived.Test.YtbogckpnajjlmaaIntsKit
namespace Go.Proofs.Ytbogckpnajjlmaa
open Go.ChangeShapes Go.WideShapes Go.ChangeAt Go.RowKit Go.Joins

set_option maxRecDepth 100000 in
theorem cells3w : Try.prog.cellsOf 42 = 3 := by kernel_rfl
theorem list3w {α : Type} (l : List α) (h : l.length = 3) : ∃ a b c, l = [a, b, c] := by
  match l, h with
  | [a, b, c], _ => exact ⟨a, b, c, rfl⟩
set_option maxRecDepth 100000 in
theorem open_i64s3 {H : Type} {enc : TypeId × Value → H} {w : World} {base b0 : Nat} {spare : Nat → Bool} {held : Bool} {v : Value} {d : DataW H} {p : List MemPlace} (hv : Value.okWide Try.prog w .any b0 42 v) (h : DataW.Trod enc Try.prog w base spare held 42 v d p) :
    ∃ x y z : Int, v = .agg #[.int .i64 x, .int .i64 y, .int .i64 z] ∧ isI64 x ∧ isI64 y ∧ isI64 z := by
  obtain ⟨cs, rfl, hsz, _⟩ : ∃ cs, v = .agg cs ∧ cs.size = Try.prog.cellsOf 42 ∧ Row.okWide Try.prog w .any b0 42 cs := by
    simpa [Value.okWide, Try.underlying42] using hv
  rw [cells3w] at hsz
  obtain ⟨l⟩ := cs
  obtain ⟨c0, c1, c2, rfl⟩ := list3w l hsz
  obtain ⟨fuel, hf⟩ := h
  obtain ⟨xs, m, rfl, hx, _, hl, hel⟩ := DataW.trod_array Try.underlying42 hf
  obtain ⟨y0, y1, y2, rfl⟩ := list3w xs hl
  have h0 := hel 0 (by omega)
  have h1 := hel 1 (by omega)
  have h2 := hel 2 (by omega)
  simp [cellsI64, Value.cells] at h0 h1 h2
  obtain ⟨a0, e0, _, wa0⟩ := DataW.trod_int Try.underlying2 h0
  obtain ⟨a1, e1, _, wa1⟩ := DataW.trod_int Try.underlying2 h1
  obtain ⟨a2, e2, _, wa2⟩ := DataW.trod_int Try.underlying2 h2
  simp at e0 e1 e2
  subst e0 e1 e2
  exact ⟨a0, a1, a2, rfl, isI64_wf wa0, isI64_wf wa1, isI64_wf wa2⟩

end Go.Proofs.Ytbogckpnajjlmaa
