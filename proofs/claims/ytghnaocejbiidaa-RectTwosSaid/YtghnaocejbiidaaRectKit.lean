/-
A rectangle as an argument, opened and shut. No statement is proved here.
-/
import Derived.Test.YtghnaocejbiidaaPost
import Derived.Test.YtghnaocejbiidaaRect0
namespace Go.Proofs.Ytghnaocejbiidaa
open Go.ChangeShapes Go.WideShapes Go.ChangeAt Go.RowKit Go.Joins

/-- the numbers of a rectangle that came in are int64 -/
def RW (r : Rc) : Prop := (Lit.int .i64 r.a).wf = true ∧ (Lit.int .i64 r.b).wf = true ∧ (Lit.int .i64 r.c).wf = true ∧ (Lit.int .i64 r.d).wf = true
theorem cellsR : Try.prog.cellsOf 23 = 4 := by kernel_rfl
theorem open_rect {H : Type} {enc : TypeId × Value → H} {w : World} {base b0 : Nat} {spare : Nat → Bool} {held : Bool} {v : Value} {d : DataW H} {p : List MemPlace} (hv : Value.okWide Try.prog w .any b0 23 v) (h : DataW.Trod enc Try.prog w base spare held 23 v d p) :
    ∃ r : Rc, v = .agg #[.int .i64 r.a, .int .i64 r.b, .int .i64 r.c, .int .i64 r.d] ∧ d = .agg [.lit (.int .i64 r.a), .lit (.int .i64 r.b), .lit (.int .i64 r.c), .lit (.int .i64 r.d)] ∧ p = [] ∧ RW r := by
  obtain ⟨c0, c1, c2, c3, y0, y1, y2, y3, m, rfl, rfl, rfl, h0, h1, h2, h3⟩ := open_agg4 Try.underlying23 (by kernel_rfl) cellsR hv h
  obtain ⟨a, e0, rfl, wa⟩ := DataW.trod_int Try.underlying3 h0
  obtain ⟨b, e1, rfl, wb⟩ := DataW.trod_int Try.underlying3 h1
  obtain ⟨c, e2, rfl, wc⟩ := DataW.trod_int Try.underlying3 h2
  obtain ⟨d, e3, rfl, wd⟩ := DataW.trod_int Try.underlying3 h3
  simp at e0 e1 e2 e3
  subst e0 e1 e2 e3
  exact ⟨⟨a, b, c, d⟩, rfl, rfl, rfl, wa, wb, wc, wd⟩
theorem shut_rect {H : Type} {enc : TypeId × Value → H} {r : Rc} (h : RW r) (W' : World) (b : Nat) (sp : Nat → Bool) (held : Bool) :
    DataW.Trod enc Try.prog W' b sp held 23 (.agg #[.int .i64 r.a, .int .i64 r.b, .int .i64 r.c, .int .i64 r.d]) (.agg [.lit (.int .i64 r.a), .lit (.int .i64 r.b), .lit (.int .i64 r.c), .lit (.int .i64 r.d)]) [] :=
  shut_agg4 (y0 := (.lit (.int .i64 r.a), [])) (y1 := (.lit (.int .i64 r.b), [])) (y2 := (.lit (.int .i64 r.c), [])) (y3 := (.lit (.int .i64 r.d), [])) Try.underlying23 (by kernel_rfl) cellsR
    ⟨1, by simp [DataW.trod, Try.underlying3, h.1]⟩ ⟨1, by simp [DataW.trod, Try.underlying3, h.2.1]⟩ ⟨1, by simp [DataW.trod, Try.underlying3, h.2.2.1]⟩ ⟨1, by simp [DataW.trod, Try.underlying3, h.2.2.2]⟩

end Go.Proofs.Ytghnaocejbiidaa
