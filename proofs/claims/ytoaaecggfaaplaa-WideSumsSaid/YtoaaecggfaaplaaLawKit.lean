/-
What every law's last step wants: numbers of 128 bits as arguments, opened and shut; the row's post out of 'nothing that was there has turned'. No statement is proved here.
-/
import Derived.Test.YtoaaecggfaaplaaPost
import Derived.Test.YtoaaecggfaaplaaWid1
import Derived.ProofKit
import Derived.OpenShut
import Derived.Lib.SmallJoins
namespace Go.Proofs.Ytoaaecggfaaplaa
open Go.ChangeShapes Go.WideShapes Go.ChangeAt Go.RowKit Go.Joins

theorem cellsW : Try.prog.cellsOf 24 = 2 := by kernel_rfl
theorem open_wide {H : Type} {enc : TypeId × Value → H} {w : World} {base b0 : Nat} {spare : Nat → Bool} {held : Bool} {v : Value} {d : DataW H} {p : List MemPlace} (hv : Value.okWide Try.prog w .any b0 24 v) (h : DataW.Trod enc Try.prog w base spare held 24 v d p) :
    ∃ (hi : Int) (lo : Nat) (z : Int), v = .agg #[.int .i64 hi, .int .u64 lo] ∧ d = .agg [.lit (.int .i64 hi), .lit (.int .u64 lo)] ∧ p = [] ∧ Num hi lo z ∧ (Lit.int .i64 hi).wf = true ∧ (Lit.int .u64 lo).wf = true := by
  obtain ⟨c0, c1, y0, y1, m, rfl, rfl, rfl, hy0, hy1⟩ := open_agg2 Try.underlying24 (by kernel_rfl) cellsW hv h
  obtain ⟨a, e0, rfl, wa⟩ := DataW.trod_int Try.underlying2 hy0
  obtain ⟨b, e1, rfl, wb⟩ := DataW.trod_int Try.underlying22 hy1
  simp at e0 e1
  subst e0 e1
  have ba := bounds_i64 wa
  have bb := bounds_u64 wb
  obtain ⟨l, rfl⟩ := Int.eq_ofNat_of_zero_le bb.1
  exact ⟨a, l, a * 18446744073709551616 + l, rfl, rfl, rfl, by unfold Num; omega, wa, wb⟩
theorem shut_wide {H : Type} {enc : TypeId × Value → H} {hi lo : Int} (wa : (Lit.int .i64 hi).wf = true) (wb : (Lit.int .u64 lo).wf = true) (W' : World) (b : Nat) (sp : Nat → Bool) (held : Bool) :
    DataW.Trod enc Try.prog W' b sp held 24 (.agg #[.int .i64 hi, .int .u64 lo]) (.agg [.lit (.int .i64 hi), .lit (.int .u64 lo)]) [] :=
  shut_agg2 (y0 := (.lit (.int .i64 hi), [])) (y1 := (.lit (.int .u64 lo), [])) Try.underlying24 (by kernel_rfl) cellsW ⟨1, by simp [DataW.trod, Try.underlying2, wa]⟩ ⟨1, by simp [DataW.trod, Try.underlying22, wb]⟩

end Go.Proofs.Ytoaaecggfaaplaa
