/-
Three numbers of 128 bits and one of 64 as one argument, opened. No statement is proved here.
-/
import Derived.Test.YtoaaecggfaaplaaLawKit
import Derived.Test.YtoaaecggfaaplaaPost2
namespace Go.Proofs.Ytoaaecggfaaplaa
open Go.ChangeShapes Go.WideShapes Go.ChangeAt Go.RowKit Go.Joins

theorem list7w {α : Type} (l : List α) (h : l.length = 7) : ∃ a b c d e f g, l = [a, b, c, d, e, f, g] := by
  match l, h with
  | [a, b, c, d, e, f, g], _ => exact ⟨a, b, c, d, e, f, g, rfl⟩
theorem list4w {α : Type} (l : List α) (h : l.length = 4) : ∃ a b c d, l = [a, b, c, d] := by
  match l, h with
  | [a, b, c, d], _ => exact ⟨a, b, c, d, rfl⟩
theorem list2w {α : Type} (l : List α) (h : l.length = 2) : ∃ a b, l = [a, b] := by
  match l, h with
  | [a, b], _ => exact ⟨a, b, rfl⟩
theorem cellsThree : Try.prog.cellsOf 56 = 7 := by kernel_rfl
theorem cellsI64 : Try.prog.cellsOf 2 = 1 := by kernel_rfl
theorem cellsU64 : Try.prog.cellsOf 22 = 1 := by kernel_rfl
set_option maxRecDepth 100000 in
theorem wide_cells {H : Type} {enc : TypeId × Value → H} {w : World} {base : Nat} {spare : Nat → Bool} {held : Bool} {m : Nat} {c0 c1 : Value} {y : DataW H × List MemPlace} (h : DataW.trod enc Try.prog w base spare held m 24 [c0, c1] = some y) :
    ∃ (hi : Int) (lo : Nat) (z : Int), c0 = .int .i64 hi ∧ c1 = .int .u64 lo ∧ Num hi lo z := by
  obtain ⟨ys, m, _, _, _, hl, hg⟩ := DataW.trod_struct Try.underlying24 h
  obtain ⟨y0, y1, rfl⟩ := list2w ys hl
  have h0 := hg 0 _ rfl
  have h1 := hg 1 _ rfl
  simp [cellsI64, cellsU64] at h0 h1
  obtain ⟨a, e0, _, wa⟩ := DataW.trod_int Try.underlying2 h0
  obtain ⟨b, e1, _, wb⟩ := DataW.trod_int Try.underlying22 h1
  simp at e0 e1
  subst e0 e1
  have ba := bounds_i64 wa
  have bb := bounds_u64 wb
  obtain ⟨l, rfl⟩ := Int.eq_ofNat_of_zero_le bb.1
  exact ⟨a, l, a * 18446744073709551616 + l, rfl, rfl, by unfold Num; omega⟩
set_option maxRecDepth 100000 in
theorem open_three {H : Type} {enc : TypeId × Value → H} {w : World} {base b0 : Nat} {spare : Nat → Bool} {held : Bool} {v : Value} {d : DataW H} {p : List MemPlace} (hv : Value.okWide Try.prog w .any b0 56 v) (h : DataW.Trod enc Try.prog w base spare held 56 v d p) :
    ∃ (h1 h2 h3 : Int) (l1 l2 l3 : Nat) (a b c x : Int), v = .agg #[.int .i64 h1, .int .u64 l1, .int .i64 h2, .int .u64 l2, .int .i64 h3, .int .u64 l3, .int .i64 x] ∧ Num h1 l1 a ∧ Num h2 l2 b ∧ Num h3 l3 c ∧ (Lit.int .i64 x).wf = true := by
  obtain ⟨cs, rfl, hsz⟩ := okWide_struct Try.underlying56 hv
  rw [cellsThree] at hsz
  obtain ⟨l⟩ := cs
  obtain ⟨c0, c1, c2, c3, c4, c5, c6, rfl⟩ := list7w l hsz
  obtain ⟨fuel, hf⟩ := h
  obtain ⟨ys, m, _, _, _, hl, hg⟩ := DataW.trod_struct Try.underlying56 hf
  obtain ⟨y0, y1, y2, y3, rfl⟩ := list4w ys hl
  have h0 := hg 0 _ rfl
  have h1 := hg 1 _ rfl
  have h2 := hg 2 _ rfl
  have h3 := hg 3 _ rfl
  simp [cellsW, cellsI64, Value.cells] at h0 h1 h2 h3
  obtain ⟨a1, l1, z1, rfl, rfl, n1⟩ := wide_cells h0
  obtain ⟨a2, l2, z2, rfl, rfl, n2⟩ := wide_cells h1
  obtain ⟨a3, l3, z3, rfl, rfl, n3⟩ := wide_cells h2
  obtain ⟨x, e, _, wx⟩ := DataW.trod_int Try.underlying2 h3
  simp at e
  subst e
  exact ⟨a1, a2, a3, l1, l2, l3, z1, z2, z3, x, rfl, n1, n2, n3, wx⟩

end Go.Proofs.Ytoaaecggfaaplaa
