/-
Slices of places as an argument, opened. No statement is proved here.
-/
import Derived.Test.YtgcnmffbhjlolabDoorPlaceKit
import Derived.Test.YtgcnmffbhjlolabDoorPlaces
import Derived.Deep.SlicePairs
import Derived.Deep.Strs
namespace Go.Proofs.YtgcnmffbhjlolabDoor
open Go.ChangeShapes Go.WideShapes Go.ChangeAt Go.RowKit Go.Joins Go.Deep

set_option maxRecDepth 100000 in
theorem three_of {α : Type} (l : List α) (h : l.length = 3) : ∃ a b c, l = [a, b, c] := by
  match l, h with
  | [a, b, c], _ => exact ⟨a, b, c, rfl⟩
set_option maxRecDepth 100000 in
theorem open_places {H : Type} {enc : TypeId × Value → H} {w : World} {base : Nat} {held : Bool} {v : Value} {d : DataW H} {p : List MemPlace} (hv : Value.okWide Tryd.prog w .any base 23 v) (h : DataW.Trod enc Tryd.prog w 0 (fun _ => true) held 23 v d p) :
    ∃ (A : Option Addr) (n cap : Nat) (f : Nat → Pl3), v = .slice A n cap ∧ n ≤ maxLen ∧ PY w A n f := by
  obtain ⟨A, n, cap, rfl⟩ := okWide_slice Tryd.underlying23 hv
  obtain ⟨fuel, hf⟩ := h
  rcases open_slice Tryd.underlying23 (cs := [.slice A n cap]) (by simpa [Value.cells] using hf) with ⟨hcs, _⟩ | ⟨a, len, cp, m, k, D, Pl, hcs, _, hl, hm, hmm, _, hx⟩
  · simp at hcs
    obtain ⟨rfl, rfl, rfl⟩ := hcs
    exact ⟨none, 0, 0, fun _ => ⟨0, 0, 0⟩, rfl, Nat.zero_le _, fun hn => absurd hn (by omega)⟩
  · simp at hcs hmm
    obtain ⟨rfl, rfl, rfl⟩ := hcs
    have each : ∀ i, i < n → ∃ q : Pl3, w.cell? (a.add (i * 3)) = some (.int .i64 q.x) ∧ w.cell? (a.add (i * 3 + 1)) = some (.int .i64 q.y) ∧ w.cell? (a.add (i * 3 + 2)) = some (.int .i64 q.d) ∧ isI64 q.x ∧ isI64 q.y ∧ isI64 q.d := by
      intro i hi
      obtain ⟨cs', h1, h2⟩ := hx i (by omega)
      rw [cellsPlace] at h1
      obtain ⟨_, hlen, hcell⟩ := World.cells?_some h1
      obtain ⟨v0, v1, v2, rfl⟩ := three_of cs' hlen
      obtain ⟨y0, y1, y2, j, _, _, g0, g1, g2⟩ := trod_struct3 Tryd.underlying33 h2
      simp [cellsI64] at g0 g1 g2
      obtain ⟨x0, e0, _, w0⟩ := DataW.trod_int Tryd.underlying2 g0
      obtain ⟨x1, e1, _, w1⟩ := DataW.trod_int Tryd.underlying2 g1
      obtain ⟨x2, e2, _, w2⟩ := DataW.trod_int Tryd.underlying2 g2
      simp at e0 e1 e2
      subst e0 e1 e2
      have c0 := hcell 0 (by omega)
      have c1 := hcell 1 (by omega)
      have c2 := hcell 2 (by omega)
      rw [add_add] at c0 c1 c2
      exact ⟨⟨x0, x1, x2⟩, by simpa using c0, by simpa using c1, by simpa using c2, isI64_wf w0, isI64_wf w1, isI64_wf w2⟩
    obtain ⟨q, hq⟩ := choose_lt each
    refine ⟨some a, n, cap, q, rfl, by omega, fun hn => ?_⟩
    obtain ⟨b, o, spot⟩ := a
    have h0 := (hq 0 hn).1
    have hs : spot = none := by simpa [Addr.add] using World.cell?_spot h0
    subst hs
    refine ⟨b, o, rfl, by simpa [Addr.add] using block_lt_of_cell h0, fun i hi => ?_⟩
    obtain ⟨e0, e1, e2, r⟩ := hq i hi
    rw [Addr.add_lit] at e0 e1 e2
    exact ⟨e0, e1, e2, r⟩

end Go.Proofs.YtgcnmffbhjlolabDoor
