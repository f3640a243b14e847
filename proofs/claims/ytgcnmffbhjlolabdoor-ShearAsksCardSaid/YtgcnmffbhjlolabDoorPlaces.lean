/-
Slices of places in memory. No program, no statement.
-/
import Derived.Test.YtgcnmffbhjlolabDoorInts
namespace Go.Proofs.YtgcnmffbhjlolabDoor
open Go.RowKit

structure Pl3 where
  x : Int
  y : Int
  d : Int
instance : Inhabited Pl3 := ⟨⟨0, 0, 0⟩⟩
/-- a slice that holds these places -/
def PY (w : World) (A : Option Addr) (n : Nat) (f : Nat → Pl3) : Prop :=
  0 < n → ∃ b o, A = some ⟨b, o, none⟩ ∧ b < w.heap.size ∧ ∀ i, i < n → w.cell? ⟨b, o + i * 3, none⟩ = some (.int .i64 (f i).x) ∧ w.cell? ⟨b, o + i * 3 + 1, none⟩ = some (.int .i64 (f i).y) ∧ w.cell? ⟨b, o + i * 3 + 2, none⟩ = some (.int .i64 (f i).d) ∧
    isI64 (f i).x ∧ isI64 (f i).y ∧ isI64 (f i).d
theorem PY.below {w w' : World} {A : Option Addr} {n : Nat} {f : Nat → Pl3} (h : PY w A n f) (hb : Below w.heap.size w w') : PY w' A n f := fun hn => by
  obtain ⟨b, o, e, hlt, hc⟩ := h hn
  refine ⟨b, o, e, Nat.lt_of_lt_of_le hlt hb.size, fun i hi => ?_⟩
  obtain ⟨c0, c1, c2, r⟩ := hc i hi
  exact ⟨(hb.cell (p := ⟨b, o + i * 3, none⟩) hlt).trans c0, (hb.cell (p := ⟨b, o + i * 3 + 1, none⟩) hlt).trans c1, (hb.cell (p := ⟨b, o + i * 3 + 2, none⟩) hlt).trans c2, r⟩
theorem PY.drewN {w : World} {A : Option Addr} {n : Nat} {f : Nat → Pl3} (h : PY w A n f) (k : Nat) : PY (w.drewN k) A n f := h
end Go.Proofs.YtgcnmffbhjlolabDoor
