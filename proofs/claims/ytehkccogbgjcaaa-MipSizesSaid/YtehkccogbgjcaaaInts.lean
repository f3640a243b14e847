/-
Slices of int64 in memory. No program, no statement.
-/
import Derived.Test.YtehkccogbgjcaaaKit
import Derived.IntWalk
namespace Go.Proofs.Ytehkccogbgjcaaa
open Go.RowKit

def isI64 (x : Int) : Prop := -9223372036854775808 ≤ x ∧ x ≤ 9223372036854775807
theorem wrap64_i64 (x : Int) : isI64 (wrap64 x) := by unfold isI64 wrap64; omega
theorem wrap_i64 (x : Int) : isI64 (IntKind.i64.wrap x) := by rw [IntWalk.i64_left]; exact wrap64_i64 x

/-- a slice that holds these numbers -/
def IY (w : World) (A : Option Addr) (n c : Nat) (xs : List Int) : Prop :=
  xs.length = n ∧ n ≤ c ∧ c ≤ maxLen ∧ (∀ x ∈ xs, isI64 x) ∧ (0 < n → ∃ b o, A = some ⟨b, o, none⟩ ∧ b < w.heap.size ∧ ∀ i, i < n → w.cell? ⟨b, o + i, none⟩ = some (.int .i64 (xs.getD i 0)))
theorem IY.below {w w' : World} {A : Option Addr} {n c : Nat} {xs : List Int} (h : IY w A n c xs) (hb : Below w.heap.size w w') : IY w' A n c xs := by
  obtain ⟨h1, h2, h3, h4, h5⟩ := h
  refine ⟨h1, h2, h3, h4, fun hn => ?_⟩
  obtain ⟨b, o, e, hlt, hc⟩ := h5 hn
  exact ⟨b, o, e, Nat.lt_of_lt_of_le hlt hb.size, fun i hi => (hb.cell (p := ⟨b, o + i, none⟩) hlt).trans (hc i hi)⟩
theorem IY.drew {w : World} {A : Option Addr} {n c : Nat} {xs : List Int} (h : IY w A n c xs) : IY w.drew A n c xs := h
theorem IY.drewN {w : World} {A : Option Addr} {n c : Nat} {xs : List Int} (h : IY w A n c xs) (m : Nat) : IY (w.drewN m) A n c xs := h
theorem IY.nil (w : World) (A : Option Addr) (c : Nat) (hc : c ≤ maxLen) : IY w A 0 c [] := ⟨rfl, Nat.zero_le _, hc, fun x hx => (by cases hx), fun h => absurd h (by omega)⟩
theorem IY.getD {w : World} {A : Option Addr} {n c : Nat} {xs : List Int} (h : IY w A n c xs) (i : Nat) : isI64 (xs.getD i 0) := by
  rw [List.getD_eq_getElem?_getD]
  rcases Nat.lt_or_ge i xs.length with q | q
  · rw [List.getElem?_eq_getElem q]; exact h.2.2.2.1 _ (List.getElem_mem q)
  · rw [List.getElem?_eq_none q]; exact ⟨by decide, by decide⟩
/-- the numbers of a block just laid -/
theorem IY.own {w : World} {g : Nat} {xs : List Int} (h : Bx w g (xs.map fun x => .int .i64 x)) (hx : ∀ x ∈ xs, isI64 x) (c : Nat) (hc : xs.length ≤ c) (hm : c ≤ maxLen) : IY w (some ⟨g, 0, none⟩) xs.length c xs :=
  ⟨rfl, hc, hm, hx, fun _ => ⟨g, 0, rfl, h.1, fun i hi => by
    rw [Nat.zero_add]
    refine (h.2 i _ ?_).1
    rw [List.getElem?_map, List.getElem?_eq_getElem hi, List.getD_eq_getElem?_getD, List.getElem?_eq_getElem hi]
    rfl⟩⟩
/-- a part of it -/
theorem IY.part {w : World} {b o n c : Nat} {xs : List Int} (h : IY w (some ⟨b, o, none⟩) n c xs) (i j : Nat) (hij : i ≤ j) (hj : j ≤ n) : IY w (some ⟨b, o + i, none⟩) (j - i) (c - i) ((xs.take j).drop i) := by
  obtain ⟨h1, h2, h3, h4, h5⟩ := h
  refine ⟨by rw [List.length_drop, List.length_take]; omega, by omega, by omega, fun x hx => h4 x (List.mem_of_mem_take (List.mem_of_mem_drop hx)), fun hn => ?_⟩
  obtain ⟨b', o', e, hlt, hc⟩ := h5 (by omega)
  cases e
  refine ⟨b, o + i, rfl, hlt, fun k hk => ?_⟩
  rw [Nat.add_assoc, hc (i + k) (by omega)]
  congr 2
  rw [List.getD_eq_getElem?_getD, List.getD_eq_getElem?_getD, List.getElem?_drop, List.getElem?_take, if_pos (by omega)]
end Go.Proofs.Ytehkccogbgjcaaa
