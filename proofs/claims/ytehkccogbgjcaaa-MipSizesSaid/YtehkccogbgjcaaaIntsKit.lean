/-
Slices of int64 as an argument, opened. No statement is proved here.
-/
import Derived.Test.YtehkccogbgjcaaaPost2
import Derived.Test.YtehkccogbgjcaaaInts
import Derived.ChangeSlices
namespace Go.Proofs.Ytehkccogbgjcaaa
open Go.ChangeShapes Go.WideShapes Go.ChangeAt Go.RowKit Go.Joins

set_option maxRecDepth 100000 in
theorem cellsI64 : Try.prog.cellsOf 2 = 1 := by kernel_rfl
set_option maxRecDepth 100000 in
theorem isI64_wf {x : Int} (h : (Lit.int .i64 x).wf = true) : isI64 x := by
  exact bounds_i64 h
set_option maxRecDepth 100000 in
theorem iy_open {H : Type} {enc : TypeId × Value → H} {w : World} {held : Bool} {m : Nat} {v : Value} {y : DataW H × List MemPlace} (h : DataW.trod enc Try.prog w 0 (fun _ => true) held m 43 [v] = some y) :
    ∃ (A : Option Addr) (n cap : Nat) (xs : List Int), v = .slice A n cap ∧ IY w A n cap xs := by
  rcases open_ints Try.underlying43 Try.underlying2 cellsI64 h with ⟨hcs, _⟩ | ⟨a, n, cap, zs, hcs, _, hl, hm, hz, _, hcell, hwz⟩
  · simp at hcs
    exact ⟨none, 0, 0, [], hcs, IY.nil _ _ _ (Nat.zero_le _)⟩
  · simp at hcs hz
    refine ⟨some a, n, cap, zs.take n, hcs, by simp; omega, hl, hm, fun x hx => isI64_wf (hwz x (List.mem_of_mem_take hx)), fun hn => ?_⟩
    obtain ⟨b, o, spot⟩ := a
    have h0 := hcell 0 (by omega)
    have hs : spot = none := by simpa [Addr.add] using World.cell?_spot h0
    subst hs
    refine ⟨b, o, rfl, by simpa [Addr.add] using block_lt_of_cell h0, fun i hi => ?_⟩
    have := hcell i (by omega)
    rw [Addr.add_lit] at this
    rw [this]
    simp [List.getD, hi]
set_option maxRecDepth 100000 in
theorem open_int64s {H : Type} {enc : TypeId × Value → H} {w : World} {base : Nat} {held : Bool} {v : Value} {d : DataW H} {p : List MemPlace} (hv : Value.okWide Try.prog w .any base 43 v) (h : DataW.Trod enc Try.prog w 0 (fun _ => true) held 43 v d p) :
    ∃ (A : Option Addr) (n cap : Nat) (xs : List Int), v = .slice A n cap ∧ IY w A n cap xs := by
  obtain ⟨A, n, cap, rfl⟩ := okWide_slice Try.underlying43 hv
  obtain ⟨fuel, hf⟩ := h
  exact iy_open (v := .slice A n cap) (by simpa [Value.cells] using hf)

end Go.Proofs.Ytehkccogbgjcaaa
