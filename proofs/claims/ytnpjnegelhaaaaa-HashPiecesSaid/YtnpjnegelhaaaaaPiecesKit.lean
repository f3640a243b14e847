/-
Rows of bytes as an argument, opened. No statement is proved here.
-/
import Derived.Test.YtnpjnegelhaaaaaPieces0
import Derived.Test.YtnpjnegelhaaaaaByKit
import Derived.Deep.Matrix
namespace Go.Proofs.Ytnpjnegelhaaaaa
open Go.ChangeShapes Go.WideShapes Go.ChangeAt Go.RowKit Go.Joins Go.Deep

theorem cellsBs : Try.prog.cellsOf 38 = 1 := by kernel_rfl
theorem open_byte_rows {H : Type} {enc : TypeId × Value → H} {w : World} {base : Nat} {held : Bool} {v : Value} {d : DataW H} {p : List MemPlace} (hv : Value.okWide Try.prog w .any base 58 v) (h : DataW.Trod enc Try.prog w 0 (fun _ => true) held 58 v d p) :
    ∃ (O : Option Addr) (n cap : Nat) (f : Nat → Piece), v = .slice O n cap ∧ BYS w O n f := by
  obtain ⟨O, n, cap, rfl⟩ := okWide_slice Try.underlying58 hv
  obtain ⟨fuel, hf⟩ := h
  rcases open_int_rows Try.underlying58 Try.underlying38 Try.underlying5 cellsBs cellsU8 (cs := [.slice O n cap]) (by simpa [Value.cells] using hf) with ⟨hcs, _⟩ | ⟨a, len, cp, A, L, C, Z, hcs, _, hl, _, _, hr⟩
  · simp at hcs
    obtain ⟨rfl, rfl, rfl⟩ := hcs
    exact ⟨none, 0, 0, fun _ => ⟨none, 0, 0, []⟩, rfl, fun hn => absurd hn (by omega)⟩
  · simp at hcs
    obtain ⟨rfl, rfl, rfl⟩ := hcs
    refine ⟨some a, n, cap, fun r => ⟨A r, L r, C r, (Z r).take (L r)⟩, rfl, fun hn => ?_⟩
    obtain ⟨b, o, spot⟩ := a
    have h0 := (hr 0 (by omega)).1
    have hs : spot = none := by simpa [Addr.add] using World.cell?_spot h0
    subst hs
    refine ⟨b, o, rfl, by simpa [Addr.add] using block_lt_of_cell h0, fun r hrn => ?_⟩
    obtain ⟨e1, r1, r2, r3, r4, _, r6⟩ := hr r (by omega)
    rw [Addr.add_lit] at e1
    refine ⟨e1, by simp only [List.length_take]; omega, r1, r2, fun x hx => ?_, fun hp => ?_⟩
    · have := bounds_u8 (r4 x (List.mem_of_mem_take hx))
      omega
    · cases hA : A r with
      | none => simp only at hp; have := (hr r (by omega)).2.2.2.2.2.1 hA; omega
      | some a' =>
        obtain ⟨b', o', spot'⟩ := a'
        simp only at hp
        have hc := (r6 _ hA).2
        have h0' := hc 0 (by omega)
        have hs' : spot' = none := by simpa [Addr.add] using World.cell?_spot h0'
        subst hs'
        refine ⟨b', o', hA, by simpa [Addr.add] using block_lt_of_cell h0', fun i hi => ?_⟩
        have := hc i (by simp only at hi; omega)
        rw [Addr.add_lit] at this
        rw [this]
        simp only at hi
        simp [List.getD, hi]

end Go.Proofs.Ytnpjnegelhaaaaa
