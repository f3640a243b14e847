/-
An image as an argument, opened. No statement is proved here.
-/
import Derived.Test.YtbpnnjnkjbpmaaaPost2
import Derived.Test.YtbpnnjnkjbpmaaaImg0
import Derived.ChangeSlices
namespace Go.Proofs.Ytbpnnjnkjbpmaaa
open Go.ChangeShapes Go.WideShapes Go.ChangeAt Go.RowKit Go.Joins

theorem cellsImg : Try.prog.cellsOf 24 = 4 := by kernel_rfl
theorem cellsU8 : Try.prog.cellsOf 5 = 1 := by kernel_rfl
theorem by_open {H : Type} {enc : TypeId × Value → H} {w : World} {held : Bool} {m : Nat} {v : Value} {y : DataW H × List MemPlace} (h : DataW.trod enc Try.prog w 0 (fun _ => true) held m 22 [v] = some y) :
    ∃ (A : Option Addr) (n cap : Nat) (xs : List Int), v = .slice A n cap ∧ BY w A n cap xs := by
  rcases open_ints Try.underlying22 Try.underlying5 cellsU8 h with ⟨hcs, _⟩ | ⟨a, n, cap, zs, hcs, _, hl, hm, hz, _, hcell, hwz⟩
  · simp at hcs
    exact ⟨none, 0, 0, [], hcs, BY.nil _ _ _ (Nat.zero_le _)⟩
  · simp at hcs hz
    refine ⟨some a, n, cap, zs.take n, hcs, by simp; omega, hl, hm, fun x hx => ?_, fun hn => ?_⟩
    · have := bounds_u8 (hwz x (List.mem_of_mem_take hx))
      omega
    · obtain ⟨b, o, spot⟩ := a
      have h0 := hcell 0 (by omega)
      have hs : spot = none := by simpa [Addr.add] using World.cell?_spot h0
      subst hs
      refine ⟨b, o, rfl, by simpa [Addr.add] using block_lt_of_cell h0, fun i hi => ?_⟩
      have := hcell i (by omega)
      rw [Addr.add_lit] at this
      rw [this]
      simp [List.getD, hi]
theorem open_image {H : Type} {enc : TypeId × Value → H} {w : World} {base : Nat} {held : Bool} {v : Value} {d : DataW H} {p : List MemPlace} (hv : Value.okWide Try.prog w .any base 24 v) (h : DataW.Trod enc Try.prog w 0 (fun _ => true) held 24 v d p) :
    ∃ (x y c : Int) (A : Option Addr) (n cap : Nat) (xs : List Int), v = .agg #[.int .i64 x, .int .i64 y, .int .i64 c, .slice A n cap] ∧ BY w A n cap xs ∧ (Lit.int .i64 x).wf = true ∧ (Lit.int .i64 y).wf = true ∧ (Lit.int .i64 c).wf = true := by
  obtain ⟨c0, c1, c2, c3, y0, y1, y2, y3, m, rfl, rfl, rfl, h0, h1, h2, h3⟩ := open_agg4 Try.underlying24 (by kernel_rfl) cellsImg hv h
  obtain ⟨a, e0, _, wa⟩ := DataW.trod_int Try.underlying3 h0
  obtain ⟨b, e1, _, wb⟩ := DataW.trod_int Try.underlying3 h1
  obtain ⟨c, e2, _, wc⟩ := DataW.trod_int Try.underlying3 h2
  obtain ⟨A, n, cap, xs, e3, hB⟩ := by_open h3
  simp at e0 e1 e2
  subst e0 e1 e2 e3
  exact ⟨a, b, c, A, n, cap, xs, rfl, hB, wa, wb, wc⟩

end Go.Proofs.Ytbpnnjnkjbpmaaa
