/-
Words for what a call leaves in memory. No program, no statement.
-/
import Derived.Below
import Derived.RegionTactic
import Derived.OwnWalk
import Derived.WalkKit
import Derived.Lib.Hide
import Derived.WalkSpells
import Derived.WalkLawsBesides
import Derived.Deep.RegionHeld3
import Derived.Deep.DeepFit
import Derived.Deep.Draws
namespace Go.Proofs.Ytehkccogbgjcaaa
open Go.RowKit

theorem hide {p : Prop} (h : p) : Hid p := h
theorem bcell {W w1 : World} (hb : Below W.heap.size W w1) : (∀ b o, b < W.heap.size → w1.cell? ⟨b, o, none⟩ = W.cell? ⟨b, o, none⟩) ∧ (∀ b o, b < W.heap.size → w1.frozen? ⟨b, o, none⟩ = W.frozen? ⟨b, o, none⟩) :=
  ⟨fun b o h => hb.cell (p := ⟨b, o, none⟩) h, fun b o h => hb.frozen (p := ⟨b, o, none⟩) h⟩

theorem bfrozen {W w1 : World} (hb : Below W.heap.size W w1) : ∀ o b i, b < W.heap.size → (w1.alloc o).frozen? ⟨b, i, none⟩ = W.frozen? ⟨b, i, none⟩ :=
  fun o b i h => (hb.alloc hb.size o).frozen (p := ⟨b, i, none⟩) h
theorem bcell1 {W w1 : World} (hb : Below W.heap.size W w1) : ∀ o b i, b < W.heap.size → (w1.alloc o).cell? ⟨b, i, none⟩ = W.cell? ⟨b, i, none⟩ :=
  fun o b i h => (hb.alloc hb.size o).cell (p := ⟨b, i, none⟩) h
theorem below_alloc (w : World) (o : Obj) : Below w.heap.size w (w.alloc o) := (Below.refl _ _).alloc (Nat.le_refl _) o
theorem below_alloc' {B : Nat} {w : World} (h : B ≤ w.heap.size) (o : Obj) : Below B w (w.alloc o) := (Below.refl _ _).alloc h o
theorem below_alloc2 (w : World) (o o' : Obj) : Below w.heap.size w ((w.alloc o).alloc o') := (below_alloc w o).alloc (by simp) o'
theorem below_alloc3 (w : World) (o o' o2 : Obj) : Below w.heap.size w (((w.alloc o).alloc o').alloc o2) := (below_alloc2 w o o').alloc (by simp; omega) o2

/-- all that was there reads as it did -/
def Bel (w w' : World) : Prop := Below w.heap.size w w'
theorem Bel.refl (w : World) : Bel w w := Below.refl _ _
theorem Bel.drew {w w' : World} (h : Bel w w') : Bel w w'.drew := Below.drew h
theorem Bel.trans {w w1 w2 : World} (h : Bel w w1) (k : Below w1.heap.size w1 w2) : Bel w w2 := Below.trans h (k.mono h.size)
theorem Bel.cell {w w' : World} (h : Bel w w') {b : Nat} (i : Nat) (hb : b < w.heap.size) : w'.cell? ⟨b, i, none⟩ = w.cell? ⟨b, i, none⟩ := Below.cell h (p := ⟨b, i, none⟩) hb
theorem Bel.frozen {w w' : World} (h : Bel w w') {b : Nat} (i : Nat) (hb : b < w.heap.size) : w'.frozen? ⟨b, i, none⟩ = w.frozen? ⟨b, i, none⟩ := Below.frozen h (p := ⟨b, i, none⟩) hb

/-- a call that answers v, and turns nothing that was there -/
def Says (w : World) (v : Value) (e : Ending) (w' : World) : Prop := e = .returned v ∧ Below w.heap.size w w'

theorem below_set2 {w w1 : World} {g : Nat} (h : Below w.heap.size w w1) (hg : w.heap.size ≤ g) (u v : Value) : Below w.heap.size w ((w1.setCell ⟨g, 0, none⟩ u).setCell ⟨g, 1, none⟩ v) := (h.setCell hg u).setCell hg v
theorem below_set4 {w w1 : World} {g : Nat} (h : Below w.heap.size w w1) (hg : w.heap.size ≤ g) (u v x y : Value) :
    Below w.heap.size w ((((w1.setCell ⟨g, 0, none⟩ u).setCell ⟨g, 1, none⟩ v).setCell ⟨g, 2, none⟩ x).setCell ⟨g, 3, none⟩ y) := (((h.setCell hg u).setCell hg v).setCell hg x).setCell hg y
theorem bless {W w1 : World} (hb : Below W.heap.size W w1) : ∀ k, k < W.heap.size → k < w1.heap.size := fun _ h => Nat.lt_of_lt_of_le h hb.size
theorem bdrewN {B : Nat} {a w : World} (h : Below B a w) (n : Nat) : Below B a (w.drewN n) := ⟨h.os, h.tape, h.output, h.size, h.block⟩

theorem if_max (a b : Int) : (if a < b then b else a) = max a b := by split <;> omega
theorem if_min (a b : Int) : (if b < a then b else a) = min a b := by split <;> omega

/-- a box: a block of the call's own whose first cells are these -/
def Bx (w : World) (g : Nat) (xs : List Value) : Prop := g < w.heap.size ∧ ∀ i v, xs[i]? = some v → w.cell? ⟨g, i, none⟩ = some v ∧ w.frozen? ⟨g, i, none⟩ = false
theorem Bx.below {w w' : World} {g : Nat} {xs : List Value} (h : Bx w g xs) (hb : Below w.heap.size w w') : Bx w' g xs :=
  ⟨Nat.lt_of_lt_of_le h.1 hb.size, fun i v hv => ⟨(hb.cell (p := ⟨g, i, none⟩) h.1).trans (h.2 i v hv).1, (hb.frozen (p := ⟨g, i, none⟩) h.1).trans (h.2 i v hv).2⟩⟩
theorem Bx.alloc {w : World} {g : Nat} {xs : List Value} (h : Bx w g xs) (o : Obj) : Bx (w.alloc o) g xs := h.below (below_alloc w o)
theorem Bx.drew {w : World} {g : Nat} {xs : List Value} (h : Bx w g xs) : Bx w.drew g xs := h
theorem Bx.drewN {w : World} {g : Nat} {xs : List Value} (h : Bx w g xs) (n : Nat) : Bx (w.drewN n) g xs := h
theorem Bx.new (w : World) (xs : List Value) (T : TypeId) : Bx (w.alloc (.cells xs.toArray T)) w.heap.size xs := by
  refine ⟨by simp, fun i v hv => ?_⟩
  have hlt : i < xs.length := by
    rcases Nat.lt_or_ge i xs.length with h | h
    · exact h
    · rw [List.getElem?_eq_none h] at hv; cases hv
  have e : xs[i] = v := by rw [List.getElem?_eq_getElem hlt] at hv; injection hv
  constructor
  · simp [World.cell?_alloc_new, hlt, e]
  · simp [go_sem]
theorem Bx.at {w : World} {g : Nat} (xs : List Value) (T : TypeId) (hg : g = w.heap.size) : Bx (w.alloc (.cells xs.toArray T)) g xs := hg ▸ Bx.new w xs T
theorem Bx.other {w : World} {g h i : Nat} {xs : List Value} (k : Bx w g xs) (hne : g ≠ h) (u : Value) : Bx (w.setCell ⟨h, i, none⟩ u) g xs := by
  refine ⟨by simpa using k.1, fun j v hv => ⟨?_, ?_⟩⟩
  · rw [World.cell?_setCell_other _ _ _ _ (fun e => hne (by injection e with e; exact e.symm))]; exact (k.2 j v hv).1
  · simpa using (k.2 j v hv).2
theorem Bx.one {w : World} {g : Nat} {x0 : Value} (h : Bx w g [x0]) : g < w.heap.size ∧ w.cell? ⟨g, 0, none⟩ = some x0 ∧ w.frozen? ⟨g, 0, none⟩ = false := ⟨h.1, h.2 0 x0 rfl⟩
theorem Bx.two {w : World} {g : Nat} {x0 x1 : Value} (h : Bx w g [x0, x1]) : g < w.heap.size ∧ w.cell? ⟨g, 0, none⟩ = some x0 ∧ w.cell? ⟨g, 1, none⟩ = some x1 ∧ w.frozen? ⟨g, 0, none⟩ = false ∧ w.frozen? ⟨g, 1, none⟩ = false :=
  ⟨h.1, (h.2 0 x0 rfl).1, (h.2 1 x1 rfl).1, (h.2 0 x0 rfl).2, (h.2 1 x1 rfl).2⟩
theorem Bx.four {w : World} {g : Nat} {x0 x1 x2 x3 : Value} (h : Bx w g [x0, x1, x2, x3]) : g < w.heap.size ∧ w.cell? ⟨g, 0, none⟩ = some x0 ∧ w.cell? ⟨g, 1, none⟩ = some x1 ∧ w.cell? ⟨g, 2, none⟩ = some x2 ∧ w.cell? ⟨g, 3, none⟩ = some x3 ∧
    w.frozen? ⟨g, 0, none⟩ = false ∧ w.frozen? ⟨g, 1, none⟩ = false ∧ w.frozen? ⟨g, 2, none⟩ = false ∧ w.frozen? ⟨g, 3, none⟩ = false :=
  ⟨h.1, (h.2 0 x0 rfl).1, (h.2 1 x1 rfl).1, (h.2 2 x2 rfl).1, (h.2 3 x3 rfl).1, (h.2 0 x0 rfl).2, (h.2 1 x1 rfl).2, (h.2 2 x2 rfl).2, (h.2 3 x3 rfl).2⟩

theorem Bx.set4 {w : World} {g : Nat} {x0 x1 x2 x3 : Value} (h : Bx w g [x0, x1, x2, x3]) (u0 u1 u2 u3 : Value) :
    Bx ((((w.setCell ⟨g, 0, none⟩ u0).setCell ⟨g, 1, none⟩ u1).setCell ⟨g, 2, none⟩ u2).setCell ⟨g, 3, none⟩ u3) g [u0, u1, u2, u3] := by
  obtain ⟨h0, c0, c1, c2, c3, f0, f1, f2, f3⟩ := h.four
  refine ⟨by simpa using h0, fun i v hv => ?_⟩
  match i, hv with
  | 0, hv => obtain rfl : u0 = v := by simpa using hv
             simp [go_sem, c0, f0]
  | 1, hv => obtain rfl : u1 = v := by simpa using hv
             simp [go_sem, c1, f1]
  | 2, hv => obtain rfl : u2 = v := by simpa using hv
             simp [go_sem, c2, f2]
  | 3, hv => obtain rfl : u3 = v := by simpa using hv
             simp [go_sem, c3, f3]
  | n + 4, hv => simp at hv
theorem Bx.other4 {w : World} {g h : Nat} {xs : List Value} (k : Bx w g xs) (hne : g ≠ h) (u0 u1 u2 u3 : Value) :
    Bx ((((w.setCell ⟨h, 0, none⟩ u0).setCell ⟨h, 1, none⟩ u1).setCell ⟨h, 2, none⟩ u2).setCell ⟨h, 3, none⟩ u3) g xs := (((k.other hne _).other hne _).other hne _).other hne _

end Go.Proofs.Ytehkccogbgjcaaa
