/-
Blocks of bytes known whole; copy. No statement is proved here.
-/
import Derived.Test.YtehkccogbgjcaaaApp1
import Derived.Test.YtehkccogbgjcaaaMk0
import Derived.Test.YtehkccogbgjcaaaDiff0
import Derived.Deep.RegionHeld3
namespace Go.Proofs.Ytehkccogbgjcaaa
open Go.RowKit

/-- a block of bytes, known whole -/
def RowAt (w : World) (g : Nat) (l : List Value) : Prop := w.heap[g]? = some (.cells l.toArray 5 (0, 0))
theorem RowAt.grown {w w' : World} {g : Nat} {l : List Value} {row : Option Nat} (h : RowAt w g l) (hg : w.grownBy w' row) (hne : some g ≠ row) : RowAt w' g l := by
  have hlt : g < w.heap.size := by
    rcases Nat.lt_or_ge g w.heap.size with q | q
    · exact q
    · unfold RowAt at h; rw [Array.getElem?_eq_none q] at h; cases h
  exact (hg.block g hlt hne).trans h
theorem RowAt.lt {w : World} {g : Nat} {l : List Value} (h : RowAt w g l) : g < w.heap.size := by
  rcases Nat.lt_or_ge g w.heap.size with q | q
  · exact q
  · unfold RowAt at h; rw [Array.getElem?_eq_none q] at h; cases h
theorem RowAt.bx {w : World} {g : Nat} {l : List Value} (h : RowAt w g l) : Bx w g l := by
  refine ⟨h.lt, fun i v hv => ⟨?_, frozen_of_row w g i l.toArray 5 h⟩⟩
  rw [cell_of_row w g i l.toArray 5 (0, 0) h]
  simpa using hv
theorem grownBy_trans {a b c : World} {row : Option Nat} (h : a.grownBy b row) (k : b.grownBy c row) : a.grownBy c row :=
  ⟨k.os.trans h.os, k.tape.trans h.tape, k.output.trans h.output, Nat.le_trans h.size k.size, fun i hi hr => (k.block i (Nat.lt_of_lt_of_le hi h.size) hr).trans (h.block i hi hr)⟩
theorem grownBy_drew {a b : World} {row : Option Nat} (h : a.grownBy b row) : a.grownBy b.drew row := ⟨h.os, h.tape, h.output, h.size, h.block⟩
theorem grownBy_row (w : World) (g : Nat) (cs : Array Value) : w.grownBy (w.setRow g cs) (some g) :=
  ⟨rfl, rfl, rfl, by simp [World.setRow], fun k _ hk => setRow_other w g k cs (fun e => hk (by rw [e]))⟩
/-- copy in a region that draws its order, by what its run tells -/
theorem step_copy_run {P : Program} {ops : Array Oper} {o : Oper} {a : Act} {w : World} {K : Act → World → Prop} {Q : Exit → Act → World → Prop} {E : Prop} (hgd : o.guard = none) (s x : Operand) (t t' : TypeId)
    (ho : o.op = .call { callee := .builtin .copy, args := #[s, x], argTypes := #[t, t'] }) (u v : Value) (hs : a.eval s = u) (hx : a.eval x = v) {r : Value} {w' : World} (hr : (Builtin.copy_ #[t, t'] o.type #[u, v]).run P w = .ok r w')
    (h : K (a.put o.dst r) w') : if Region.wanted o (yielded ops a.tmps) = true then Oper.wp P o a w K Q else E := by
  have hw : Region.wanted o (yielded ops a.tmps) = true := by simp [Region.wanted, hgd]
  rw [if_pos hw]
  unfold Oper.wp
  simp [execOp, ho, resolve, invoke, builtin, hs, hx, hr, Result.andThen]
  exact h

end Go.Proofs.Ytehkccogbgjcaaa
