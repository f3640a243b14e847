/-
Contract of the reference's powers of two. No statement is proved here.
-/
import Derived.Test.YtehkccogbgjcaaaBig5
namespace Go.Proofs.Ytehkccogbgjcaaa
open Go.RowKit

theorem Pow_step (k : Nat) : (2 : Int) ^ k + 2 ^ k = 2 ^ (k + 1) := by rw [Int.pow_succ]; omega
def PowRel (w : World) (g n : Nat) (i : Value) (wr : World) : Prop :=
  ∃ (k : Nat) (s : Bool) (A : Option Addr) (m c : Nat), k ≤ n ∧ i = .int .i64 k ∧ BV wr (5 + k) s A m c (2 ^ k) ∧ wr.cell? ⟨g, 0, none⟩ = some (.bool s) ∧ wr.cell? ⟨g, 1, none⟩ = some (.slice A m c) ∧ wr.frozen? ⟨g, 0, none⟩ = false ∧ wr.frozen? ⟨g, 1, none⟩ = false ∧ Box wr g ∧ g < wr.heap.size ∧
    Below (w.heap.size + 1) (w.alloc (.cells #[.bool false, .slice none 0 0] 24)) wr

theorem setCell_cell {w : World} {g i : Nat} {x : Value} (u : Value) (h : w.cell? ⟨g, i, none⟩ = some x) : (w.setCell ⟨g, i, none⟩ u).cell? ⟨g, i, none⟩ = some u := by simp [go_sem, h]
theorem setCell_cell_ne {w : World} {g i j : Nat} {x : Value} (u : Value) (hne : j ≠ i) (h : w.cell? ⟨g, i, none⟩ = some x) : (w.setCell ⟨g, j, none⟩ u).cell? ⟨g, i, none⟩ = some x := by
  rw [World.cell?_setCell_other _ _ _ _ (fun e => hne (by injection e with _ e))]; exact h
theorem PowRel.step {w w2 : World} {g n k : Nat} {s2 : Bool} {A2 : Option Addr} {n2 c2 : Nat} {x y : Value} (hlt : k < n) (hB : BV w2 (5 + k + 1) s2 A2 n2 c2 (2 ^ k + 2 ^ k)) (hx : Box w2 g)
    (h0 : w2.cell? ⟨g, 0, none⟩ = some x) (h1 : w2.cell? ⟨g, 1, none⟩ = some y) (hf0 : w2.frozen? ⟨g, 0, none⟩ = false) (hf1 : w2.frozen? ⟨g, 1, none⟩ = false) (hg : w.heap.size + 1 ≤ g) (hg2 : g < w2.heap.size)
    (hb : Below (w.heap.size + 1) (w.alloc (.cells #[.bool false, .slice none 0 0] 24)) w2) :
    PowRel w g n (.int .i64 ((k : Int) + 1)) ((w2.setCell ⟨g, 0, none⟩ (.bool s2)).setCell ⟨g, 1, none⟩ (.slice A2 n2 c2)) := by
  refine ⟨k + 1, s2, A2, n2, c2, hlt, by go_num, ?_, ?_, ?_, ?_, ?_, (hx.set_ _ _ _).set_ _ _ _, by simpa [World.setCell] using hg2, (hb.setCell hg _).setCell hg _⟩
  · rw [← Pow_step]; exact (hB.boxed hx 0 _).boxed (hx.set_ _ _ _) 1 _
  · exact setCell_cell_ne _ (by decide) (setCell_cell _ h0)
  · exact setCell_cell _ (setCell_cell_ne _ (by decide) h1)
  · simpa [go_sem] using hf0
  · simpa [go_sem] using hf1

set_option maxHeartbeats 1000000 in
theorem Pow_any (n : Nat) (hn : n ≤ 1000) (w : World) :
    Calls Try.prog 83 #[.int .i64 n] w (MadeB w (5 + n) (2 ^ n)) := by
  go_enter Try.func83, Try.ntmps83
  go_wp2_with fail
  refine (Of_any 1 _ (by omega) (by omega)).mono ?_
  rintro e w1 ⟨s1, A1, n1, c1, rfl, hB, hb⟩
  have hz := hb.size
  simp at hz
  have Hst := hide (show PowRel w w1.heap.size n (.int .i64 ((0 : Nat) : Int)) (w1.alloc (.cells #[.bool s1, .slice A1 n1 c1] 24)) from
    ⟨0, s1, A1, n1, c1, by omega, rfl, hB.below (below_alloc _ _), by simp [go_sem], by simp [go_sem], by simp [go_sem], by simp [go_sem], Box.new _ _ _ (by decide), by simp, by simpa using hb.alloc hb.size _⟩)
  clear hB hb
  go_wp2_with fail
  go_loopw [4] (fun i wr => PowRel w w1.heap.size n i wr) (fun i _ => n - (intOf i).toNat)
  case atStart => exact Hst.out
  case round =>
    clear Hst
    obtain ⟨k, s, A, m, c, hk, rfl, hB, hc0, hc1, hf0, hf1, hx, hgz, hbl⟩ := hrel
    have HB := hide hB
    have HX := hide hx
    have Hbl := hide hbl
    clear hB hx hbl
    by_cases hlt : k < n
    · go_wp2_with fail
      refine (Add_any (5 + k) (by omega) _ _ _ _ _ _ _ _ _ _ _ HB.out HB.out).mono ?_
      rintro e w2 ⟨s2, A2, n2, c2, rfl, hB2, hb2⟩
      obtain ⟨hc, hf⟩ := bcell hb2
      have HX2 := hide (HX.out.below hb2)
      have Hb2 := hide (Hbl.out.trans (hb2.mono (by have := Hbl.out.size; simp at this; omega)))
      have HB2 := hide hB2
      have hz2 : w1.heap.size < w2.heap.size := by have := hb2.size; omega
      clear hB2 hb2
      have Hr := hide (PowRel.step hlt HB2.out HX2.out ((hc _ 0 hgz).trans hc0) ((hc _ 1 hgz).trans hc1) ((hf _ 0 hgz).trans hf0) ((hf _ 1 hgz).trans hf1) (by omega) hz2 Hb2.out)
      go_wp2_with fail
      go_roundw
      case rel => exact Hr.out
      case measure => simp [intOf]; omega
    · have hkn : k = n := by omega
      subst hkn
      have hw := Hbl.out.cell (p := ⟨w.heap.size, 0, none⟩) (by simp)
      have hw1 := Hbl.out.cell (p := ⟨w.heap.size, 1, none⟩) (by simp)
      have hwf := Hbl.out.frozen (p := ⟨w.heap.size, 0, none⟩) (by simp)
      have hwf1 := Hbl.out.frozen (p := ⟨w.heap.size, 1, none⟩) (by simp)
      simp [go_sem] at hw hw1 hwf hwf1
      go_wp2_with fail
      refine bodyPost_ret (v := .agg #[.bool s, .slice A m c]) (by simp [results, Try.results83, go_sem, hw, hw1]) rfl ?_
      exact MadeB.fin ((below_alloc w _).trans (Hbl.out.mono (by omega))) (Nat.le_refl _) ((Box.new w #[.bool false, .slice none 0 0] 24 (by decide)).below (by simpa using Hbl.out)) HB.out _ _

end Go.Proofs.Ytehkccogbgjcaaa
