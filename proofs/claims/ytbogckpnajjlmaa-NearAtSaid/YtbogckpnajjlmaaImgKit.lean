/-
An image as an argument, opened. No statement is proved here.
-/
import Derived.Test.YtbogckpnajjlmaaPost2
import Derived.Test.YtbogckpnajjlmaaByKit
namespace Go.Proofs.Ytbogckpnajjlmaa
open Go.ChangeShapes Go.WideShapes Go.ChangeAt Go.RowKit Go.Joins

set_option maxRecDepth 100000 in
theorem cellsImg : Try.prog.cellsOf 24 = 4 := by kernel_rfl
set_option maxRecDepth 100000 in
theorem open_image {H : Type} {enc : TypeId × Value → H} {w : World} {base : Nat} {held : Bool} {v : Value} {d : DataW H} {p : List MemPlace} (hv : Value.okWide Try.prog w .any base 24 v) (h : DataW.Trod enc Try.prog w 0 (fun _ => true) held 24 v d p) :
    ∃ (x y c : Int) (A : Option Addr) (n cap : Nat) (xs : List Int), v = .agg #[.int .i64 x, .int .i64 y, .int .i64 c, .slice A n cap] ∧ BY w A n cap xs ∧ (Lit.int .i64 x).wf = true ∧ (Lit.int .i64 y).wf = true ∧ (Lit.int .i64 c).wf = true := by
  obtain ⟨c0, c1, c2, c3, y0, y1, y2, y3, m, rfl, rfl, rfl, h0, h1, h2, h3⟩ := open_agg4 Try.underlying24 (by kernel_rfl) cellsImg hv h
  obtain ⟨a, e0, _, wa⟩ := DataW.trod_int Try.underlying3 h0
  obtain ⟨b, e1, _, wb⟩ := DataW.trod_int Try.underlying3 h1
  obtain ⟨c, e2, _, wc⟩ := DataW.trod_int Try.underlying3 h2
  obtain ⟨A, n, cap, xs, e3, hB⟩ := by_open h3
  simp at e0 e1 e2
  subst e0 e1 e2 e3
  exact ⟨a, b, c, A, n, cap, xs, rfl, hB, wa, wb, wc⟩

end Go.Proofs.Ytbogckpnajjlmaa
