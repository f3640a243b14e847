/-
How far two images are apart: plain numbers. No program, no statement.
-/
import Derived.Test.YtehkccogbgjcaaaImg0
namespace Go.Proofs.Ytehkccogbgjcaaa
open Go.RowKit

theorem Bx.set {w : World} {g : Nat} {xs : List Value} (h : Bx w g xs) (i : Nat) (hi : i < xs.length) (u : Value) : Bx (w.setCell ⟨g, i, none⟩ u) g (xs.set i u) := by
  have c0 := h.2 i xs[i] (List.getElem?_eq_getElem hi)
  refine ⟨by simpa using h.1, fun j v hv => ?_⟩
  by_cases e : i = j
  · subst e
    obtain rfl : u = v := by simpa [hi] using hv
    exact ⟨by simp [go_sem, c0.1], by simpa using c0.2⟩
  · have hv' : xs[j]? = some v := by rw [← hv, List.getElem?_set_ne e]
    have hj := h.2 j v hv'
    exact ⟨by rw [World.cell?_setCell_other _ _ _ _ (fun q => e (congrArg Addr.off q))]; exact hj.1, by simpa using hj.2⟩
theorem Bx.seven {w : World} {g : Nat} {x0 x1 x2 x3 x4 x5 x6 : Value} (h : Bx w g [x0, x1, x2, x3, x4, x5, x6]) : g < w.heap.size ∧
    (w.cell? ⟨g, 0, none⟩ = some x0 ∧ w.cell? ⟨g, 1, none⟩ = some x1 ∧ w.cell? ⟨g, 2, none⟩ = some x2 ∧ w.cell? ⟨g, 3, none⟩ = some x3 ∧ w.cell? ⟨g, 4, none⟩ = some x4 ∧ w.cell? ⟨g, 5, none⟩ = some x5 ∧ w.cell? ⟨g, 6, none⟩ = some x6) ∧
    w.frozen? ⟨g, 0, none⟩ = false ∧ w.frozen? ⟨g, 1, none⟩ = false ∧ w.frozen? ⟨g, 2, none⟩ = false ∧ w.frozen? ⟨g, 3, none⟩ = false ∧ w.frozen? ⟨g, 4, none⟩ = false ∧ w.frozen? ⟨g, 5, none⟩ = false ∧ w.frozen? ⟨g, 6, none⟩ = false :=
  ⟨h.1, ⟨(h.2 0 x0 rfl).1, (h.2 1 x1 rfl).1, (h.2 2 x2 rfl).1, (h.2 3 x3 rfl).1, (h.2 4 x4 rfl).1, (h.2 5 x5 rfl).1, (h.2 6 x6 rfl).1⟩, (h.2 0 x0 rfl).2, (h.2 1 x1 rfl).2, (h.2 2 x2 rfl).2, (h.2 3 x3 rfl).2, (h.2 4 x4 rfl).2, (h.2 5 x5 rfl).2, (h.2 6 x6 rfl).2⟩

structure Df where
  cnt : Int
  most : Int
  sum : Int
  sq : Int
  x : Int
  y : Int
  k : Int
deriving DecidableEq

abbrev lD (d : Df) : List Value := [.int .i64 d.cnt, .int .i64 d.most, .int .u64 d.sum, .int .u64 d.sq, .int .i64 d.x, .int .i64 d.y, .int .i64 d.k]
def absd (a b : Int) : Int := if a ≤ b then b - a else a - b
/-- one byte more -/
def dstep (wd c : Int) (i : Nat) (a b : Int) (d : Df) : Df :=
  if a = b then d
  else if d.cnt = 0 then ⟨d.cnt + 1, max d.most (absd a b), d.sum + absd a b, d.sq + absd a b * absd a b, (i : Int) / c % wd, (i : Int) / c / wd, (i : Int) % c⟩
  else ⟨d.cnt + 1, max d.most (absd a b), d.sum + absd a b, d.sq + absd a b * absd a b, d.x, d.y, d.k⟩
def dfold (wd c : Int) (xs ys : List Int) : Nat → Df
  | 0 => ⟨0, 0, 0, 0, 0, 0, 0⟩
  | i + 1 => dstep wd c i (xs.getD i 0) (ys.getD i 0) (dfold wd c xs ys i)
def isByte (a : Int) : Prop := 0 ≤ a ∧ a ≤ 255
theorem absd_in {a b : Int} (ha : isByte a) (hb : isByte b) : 0 ≤ absd a b ∧ absd a b ≤ 255 ∧ (a ≠ b → 1 ≤ absd a b) := by
  unfold isByte at ha hb; unfold absd; split <;> omega
theorem sq_in {x : Int} (h : 0 ≤ x ∧ x ≤ 255) : 0 ≤ x * x ∧ x * x ≤ 65025 := by
  have h1 : 0 ≤ x * x := Int.mul_nonneg h.1 h.1
  have h2 : x * x ≤ 255 * 255 := Int.mul_le_mul h.2 h.2 h.1 (by omega)
  omega
theorem getD_byte {xs : List Int} (h : ∀ x ∈ xs, 0 ≤ x ∧ x ≤ 255) (i : Nat) : isByte (xs.getD i 0) := by
  unfold isByte
  rcases Nat.lt_or_ge i xs.length with k | k
  · have := h xs[i] (List.getElem_mem k)
    simpa [List.getD, List.getElem?_eq_getElem k] using this
  · simp [List.getD, List.getElem?_eq_none k]
/-- what the numbers are within -/
def DfIn (i : Nat) (d : Df) : Prop := (0 ≤ d.cnt ∧ d.cnt ≤ i) ∧ (0 ≤ d.most ∧ d.most ≤ 255) ∧ (0 ≤ d.sum ∧ d.sum ≤ 255 * i) ∧ (0 ≤ d.sq ∧ d.sq ≤ 65025 * i)
theorem dfold_in (wd c : Int) {xs ys : List Int} (hx : ∀ x ∈ xs, 0 ≤ x ∧ x ≤ 255) (hy : ∀ x ∈ ys, 0 ≤ x ∧ x ≤ 255) : ∀ i, DfIn i (dfold wd c xs ys i)
  | 0 => by simp [dfold, DfIn]
  | i + 1 => by
    have h := dfold_in wd c hx hy i
    obtain ⟨h1, h2, h3⟩ := absd_in (getD_byte hx i) (getD_byte hy i)
    have h4 := sq_in ⟨h1, h2⟩
    rw [dfold]
    generalize dfold wd c xs ys i = d at *
    unfold dstep
    unfold DfIn at h ⊢
    split
    · omega
    · split <;> (simp only; omega)

end Go.Proofs.Ytehkccogbgjcaaa
