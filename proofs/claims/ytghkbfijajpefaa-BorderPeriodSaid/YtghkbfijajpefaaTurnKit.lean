/-
A place in a row (a struct of four numbers of three kinds) as an argument, opened. No statement is proved here.
-/
import Derived.Test.YtghkbfijajpefaaPost2
namespace Go.Proofs.Ytghkbfijajpefaa
open Go.ChangeShapes Go.WideShapes Go.ChangeAt Go.RowKit Go.Joins

set_option maxRecDepth 100000 in
theorem cellsTurn : Try.prog.cellsOf 35 = 4 := by kernel_rfl
set_option maxRecDepth 100000 in
theorem open_turn {H : Type} {enc : TypeId × Value → H} {w : World} {base b0 : Nat} {spare : Nat → Bool} {held : Bool} {v : Value} {d : DataW H} {p : List MemPlace} (hv : Value.okWide Try.prog w .any b0 35 v) (h : DataW.Trod enc Try.prog w base spare held 35 v d p) :
    ∃ m i n t : Int, v = .agg #[.int .i64 m, .int .i32 i, .int .i64 n, .int .i16 t] ∧ (Lit.int .i32 i).wf = true ∧ (Lit.int .i64 n).wf = true ∧ (Lit.int .i16 t).wf = true := by
  obtain ⟨c0, c1, c2, c3, y0, y1, y2, y3, m, rfl, rfl, rfl, h0, h1, h2, h3⟩ := open_agg4 Try.underlying35 (by kernel_rfl) cellsTurn hv h
  obtain ⟨a, e0, _, wa⟩ := DataW.trod_int Try.underlying3 h0
  obtain ⟨b, e1, _, wb⟩ := DataW.trod_int Try.underlying21 h1
  obtain ⟨c, e2, _, wc⟩ := DataW.trod_int Try.underlying3 h2
  obtain ⟨d, e3, _, wd⟩ := DataW.trod_int Try.underlying33 h3
  simp at e0 e1 e2 e3
  subst e0 e1 e2 e3
  exact ⟨a, b, c, d, rfl, wb, wc, wd⟩

end Go.Proofs.Ytghkbfijajpefaa
