/-
Contracts of the reference's whole numbers: Sub, Cmp, Pow, Wide, Fits. No statement is proved here.
-/
import Derived.Test.YtkobdjlpbibobaaBig4
namespace Go.Proofs.Ytkobdjlpbibobaa
open Go.RowKit

set_option maxHeartbeats 2000000 in
theorem Sub_any (M : Nat) (hM : M ≤ 1000000) (s s1 : Bool) (A A' : Option Addr) (n n' c c' : Nat) (z z' : Int) (w : World) (h : BV w M s A n c z) (h' : BV w M s1 A' n' c' z') :
    Calls Try.prog 18 #[.agg #[.bool s, .slice A n c], .agg #[.bool s1, .slice A' n' c']] w (MadeB w (M + 1) (z - z')) := by
  have H := hide fun w' (hb : Bel (Three w s s1 A A' n n' c c') w') => h.below ((Three.below _ _ _ _ _ _ _ _ _).trans (hb.mono (by rw [Three.size]; omega)))
  have H' := hide fun w' (hb : Bel (Three w s s1 A A' n n' c c') w') => h'.below ((Three.below _ _ _ _ _ _ _ _ _).trans (hb.mono (by rw [Three.size]; omega)))
  have HS := hide (Three.cells w s s1 A A' n n' c c')
  have HX := hide (Three.box w s s1 A A' n n' c c')
  have HB := hide fun w' (hb : Bel (Three w s s1 A A' n n' c c') w') => (Three.below _ _ _ _ _ _ _ _ _).trans (hb.mono (by rw [Three.size]; omega))
  have H4 := hide (Three.args w s s1 A A' n n' c c')
  have H5 := hide (Three.after w s s1 A A' n n' c c')
  clear h h'
  go_enter Try.func18, Try.ntmps18
  go_wp2_with fail
  go_region_held3 (fun w' => w'.cell? ⟨w.heap.size, 0, none⟩ = some (.bool s) ∧ w'.cell? ⟨w.heap.size, 1, none⟩ = some (.slice A n c) ∧ w'.cell? ⟨w.heap.size + 1, 0, none⟩ = some (.bool s1) ∧ w'.cell? ⟨w.heap.size + 1, 1, none⟩ = some (.slice A' n' c'))
    (first | (refine H4.out _ ?_; first | assumption | exact Three.start _ _ _ _ _ _ _ _ _ | exact Bel.drew (Three.start _ _ _ _ _ _ _ _ _) | (refine Bel.drew ?_; assumption)) | (refine H5.out _ _ _ ?_; assumption))
    (first
      | (go_at_call 19; refine (Neg_any M _ _ _ _ z' _ (H'.out _ (by first | assumption | exact Three.start _ _ _ _ _ _ _ _ _ | exact Bel.drew (Three.start _ _ _ _ _ _ _ _ _) | (refine Bel.drew ?_; assumption)))).mono ?_; rintro e w1 ⟨s2, A2, n2, c2, rfl, hB1, hb1⟩; have hkw1 : Bel (Three w s s1 A A' n n' c c') w1 := Bel.trans (by first | assumption | exact Three.start _ _ _ _ _ _ _ _ _ | exact Bel.drew (Three.start _ _ _ _ _ _ _ _ _) | (refine Bel.drew ?_; assumption)) hb1)
      | (go_at_call 17; refine (Add_any M hM _ _ _ _ _ _ _ _ z (-z') _ (H.out _ (by first | assumption | exact Three.start _ _ _ _ _ _ _ _ _ | exact Bel.drew (Three.start _ _ _ _ _ _ _ _ _) | (refine Bel.drew ?_; assumption))) (by assumption)).mono ?_; rintro e w2 ⟨s3, A3, n3, c3, rfl, hB2, hb2⟩; have hkw2 : Bel (Three w s s1 A A' n n' c c') w2 := Bel.trans (by first | assumption | exact Three.start _ _ _ _ _ _ _ _ _ | exact Bel.drew (Three.start _ _ _ _ _ _ _ _ _) | (refine Bel.drew ?_; assumption)) hb2; obtain ⟨_, q1, q2, q3, q4, q5, q6, q7, q8⟩ := HS.out _ hkw2))
  have HB2 := hide hB2
  have HK2 := hide hkw2
  clear hB2 hkw2
  go_wp2_with fail
  refine bodyPost_ret (v := .agg #[.bool s3, .slice A3 n3 c3]) (by simp [results, Try.results18, go_sem, q5, q6]) rfl ?_
  exact MadeB.fin (HB.out _ HK2.out) (by omega) (HX.out _ HK2.out) HB2.out _ _


def cmpZ (a b : Int) : Int := if a < b then -1 else if b < a then 1 else 0
theorem cmpZ_lt {a b : Int} (h : a < b) : cmpZ a b = -1 := by simp [cmpZ, h]
theorem cmpZ_gt {a b : Int} (h : b < a) : cmpZ a b = 1 := by simp [cmpZ, h, show ¬ a < b by omega]
theorem cmpZ_eq {a b : Int} (h : a = b) : cmpZ a b = 0 := by subst h; simp [cmpZ]
theorem BV.sign {w : World} {N : Nat} {s : Bool} {A : Option Addr} {n c : Nat} {z : Int} (h : BV w N s A n c z) : (z = 0 → n = 0 ∧ s = false) ∧ (z < 0 → 0 < n ∧ s = true) ∧ (0 < z → 0 < n ∧ s = false) := by
  obtain ⟨v, h1, h2, rfl⟩ := h
  have hz := h1.zero
  refine ⟨fun h => ?_, fun h => ?_, fun h => ?_⟩
  · cases s
    · simp at h ⊢; exact hz.1 h
    · simp at h h2; omega
  · cases s
    · simp at h; omega
    · simp at h ⊢; omega
  · cases s
    · simp at h ⊢; omega
    · simp at h; omega

/-- a call that answers v, and turns nothing that was there -/
def Says (w : World) (v : Value) (e : Ending) (w' : World) : Prop := e = .returned v ∧ Below w.heap.size w w'

set_option maxHeartbeats 1000000 in
theorem Cmp_any (M : Nat) (hM : M ≤ 1000000) (s s1 : Bool) (A A' : Option Addr) (n n' c c' : Nat) (z z' : Int) (w : World) (h : BV w M s A n c z) (h' : BV w M s1 A' n' c' z') :
    Calls Try.prog 32 #[.agg #[.bool s, .slice A n c], .agg #[.bool s1, .slice A' n' c']] w (Says w (.int .i64 (cmpZ z z'))) := by
  have H := hide (h.below (below_alloc2 w (.cells #[.bool s, .slice A n c] 27) (.cells #[.bool s1, .slice A' n' c'] 27)))
  have H' := hide (h'.below (below_alloc2 w (.cells #[.bool s, .slice A n c] 27) (.cells #[.bool s1, .slice A' n' c'] 27)))
  have H2 := hide (below_alloc2 w)
  clear h h'
  go_enter Try.func32, Try.ntmps32
  go_wp2_with fail
  refine (Sub_any M hM _ _ _ _ _ _ _ _ z z' _ H.out H'.out).mono ?_
  rintro e w1 ⟨s2, A2, n2, c2, rfl, hB, hb⟩
  have hsg := hB.sign
  have Hb := hide (((H2.out _ _).trans (hb.mono (by simp; omega))).alloc (by have := hb.size; simp at this; omega) (.cells #[.bool s2, .slice A2 n2 c2] 27))
  clear hB hb
  rcases Int.lt_trichotomy (z - z') 0 with h0 | h0 | h0
  · obtain ⟨hn, rfl⟩ := hsg.2.1 h0
    have hlt : z < z' := by omega
    have hne : ((n2 : Int) == 0) = false := by rw [beq_eq_false_iff_ne]; omega
    clear hsg h0
    go_wp2_with fail
    go_ret
    exact ⟨by rw [cmpZ_lt (by omega)]; rfl, Hb.out⟩
  · obtain ⟨rfl, rfl⟩ := hsg.1 h0
    have Hz := Lib.hid h0
    clear hsg h0
    go_wp2_with fail
    go_ret
    exact ⟨by rw [cmpZ_eq (by have := Hz.out; omega)]; rfl, Hb.out⟩
  · obtain ⟨hn, rfl⟩ := hsg.2.2 h0
    have hlt : z' < z := by omega
    have hne : ((n2 : Int) == 0) = false := by rw [beq_eq_false_iff_ne]; omega
    clear hsg h0
    go_wp2_with fail
    go_ret
    exact ⟨by rw [cmpZ_gt (by omega)]; rfl, Hb.out⟩

theorem Pow_step (k : Nat) : (2 : Int) ^ k + 2 ^ k = 2 ^ (k + 1) := by rw [Int.pow_succ]; omega
def PowRel (w : World) (g n : Nat) (i : Value) (wr : World) : Prop :=
  ∃ (k : Nat) (s : Bool) (A : Option Addr) (m c : Nat), k ≤ n ∧ i = .int .i64 k ∧ BV wr (5 + k) s A m c (2 ^ k) ∧ wr.cell? ⟨g, 0, none⟩ = some (.bool s) ∧ wr.cell? ⟨g, 1, none⟩ = some (.slice A m c) ∧ wr.frozen? ⟨g, 0, none⟩ = false ∧ wr.frozen? ⟨g, 1, none⟩ = false ∧ Box wr g ∧ g < wr.heap.size ∧
    Below (w.heap.size + 1) (w.alloc (.cells #[.bool false, .slice none 0 0] 27)) wr

theorem setCell_cell {w : World} {g i : Nat} {x : Value} (u : Value) (h : w.cell? ⟨g, i, none⟩ = some x) : (w.setCell ⟨g, i, none⟩ u).cell? ⟨g, i, none⟩ = some u := by simp [go_sem, h]
theorem setCell_cell_ne {w : World} {g i j : Nat} {x : Value} (u : Value) (hne : j ≠ i) (h : w.cell? ⟨g, i, none⟩ = some x) : (w.setCell ⟨g, j, none⟩ u).cell? ⟨g, i, none⟩ = some x := by
  rw [World.cell?_setCell_other _ _ _ _ (fun e => hne (by injection e with _ e))]; exact h
theorem PowRel.step {w w2 : World} {g n k : Nat} {s2 : Bool} {A2 : Option Addr} {n2 c2 : Nat} {x y : Value} (hlt : k < n) (hB : BV w2 (5 + k + 1) s2 A2 n2 c2 (2 ^ k + 2 ^ k)) (hx : Box w2 g)
    (h0 : w2.cell? ⟨g, 0, none⟩ = some x) (h1 : w2.cell? ⟨g, 1, none⟩ = some y) (hf0 : w2.frozen? ⟨g, 0, none⟩ = false) (hf1 : w2.frozen? ⟨g, 1, none⟩ = false) (hg : w.heap.size + 1 ≤ g) (hg2 : g < w2.heap.size)
    (hb : Below (w.heap.size + 1) (w.alloc (.cells #[.bool false, .slice none 0 0] 27)) w2) :
    PowRel w g n (.int .i64 ((k : Int) + 1)) ((w2.setCell ⟨g, 0, none⟩ (.bool s2)).setCell ⟨g, 1, none⟩ (.slice A2 n2 c2)) := by
  refine ⟨k + 1, s2, A2, n2, c2, hlt, by go_num, ?_, ?_, ?_, ?_, ?_, (hx.set_ _ _ _).set_ _ _ _, by simpa [World.setCell] using hg2, (hb.setCell hg _).setCell hg _⟩
  · rw [← Pow_step]; exact (hB.boxed hx 0 _).boxed (hx.set_ _ _ _) 1 _
  · exact setCell_cell_ne _ (by decide) (setCell_cell _ h0)
  · exact setCell_cell _ (setCell_cell_ne _ (by decide) h1)
  · simpa [go_sem] using hf0
  · simpa [go_sem] using hf1

set_option maxHeartbeats 1000000 in
theorem Pow_any (n : Nat) (hn : n ≤ 1000) (w : World) :
    Calls Try.prog 28 #[.int .i64 n] w (MadeB w (5 + n) (2 ^ n)) := by
  go_enter Try.func28, Try.ntmps28
  go_wp2_with fail
  refine (Of_any 1 _ (by omega) (by omega)).mono ?_
  rintro e w1 ⟨s1, A1, n1, c1, rfl, hB, hb⟩
  have hz := hb.size
  simp at hz
  have Hst := hide (show PowRel w w1.heap.size n (.int .i64 ((0 : Nat) : Int)) (w1.alloc (.cells #[.bool s1, .slice A1 n1 c1] 27)) from
    ⟨0, s1, A1, n1, c1, by omega, rfl, hB.below (below_alloc _ _), by simp [go_sem], by simp [go_sem], by simp [go_sem], by simp [go_sem], Box.new _ _ _ (by decide), by simp, by simpa using hb.alloc hb.size _⟩)
  clear hB hb
  go_wp2_with fail
  go_loopw [4] (fun i wr => PowRel w w1.heap.size n i wr) (fun i _ => n - (intOf i).toNat)
  case atStart => exact Hst.out
  case round =>
    clear Hst
    obtain ⟨k, s, A, m, c, hk, rfl, hB, hc0, hc1, hf0, hf1, hx, hgz, hbl⟩ := hrel
    have HB := hide hB
    have HX := hide hx
    have Hbl := hide hbl
    clear hB hx hbl
    by_cases hlt : k < n
    · go_wp2_with fail
      refine (Add_any (5 + k) (by omega) _ _ _ _ _ _ _ _ _ _ _ HB.out HB.out).mono ?_
      rintro e w2 ⟨s2, A2, n2, c2, rfl, hB2, hb2⟩
      obtain ⟨hc, hf⟩ := bcell hb2
      have HX2 := hide (HX.out.below hb2)
      have Hb2 := hide (Hbl.out.trans (hb2.mono (by have := Hbl.out.size; simp at this; omega)))
      have HB2 := hide hB2
      have hz2 : w1.heap.size < w2.heap.size := by have := hb2.size; omega
      clear hB2 hb2
      have Hr := hide (PowRel.step hlt HB2.out HX2.out ((hc _ 0 hgz).trans hc0) ((hc _ 1 hgz).trans hc1) ((hf _ 0 hgz).trans hf0) ((hf _ 1 hgz).trans hf1) (by omega) hz2 Hb2.out)
      go_wp2_with fail
      go_roundw
      case rel => exact Hr.out
      case measure => simp [intOf]; omega
    · have hkn : k = n := by omega
      subst hkn
      have hw := Hbl.out.cell (p := ⟨w.heap.size, 0, none⟩) (by simp)
      have hw1 := Hbl.out.cell (p := ⟨w.heap.size, 1, none⟩) (by simp)
      have hwf := Hbl.out.frozen (p := ⟨w.heap.size, 0, none⟩) (by simp)
      have hwf1 := Hbl.out.frozen (p := ⟨w.heap.size, 1, none⟩) (by simp)
      simp [go_sem] at hw hw1 hwf hwf1
      go_wp2_with fail
      refine bodyPost_ret (v := .agg #[.bool s, .slice A m c]) (by simp [results, Try.results28, go_sem, hw, hw1]) rfl ?_
      exact MadeB.fin ((below_alloc w _).trans (Hbl.out.mono (by omega))) (Nat.le_refl _) ((Box.new w #[.bool false, .slice none 0 0] 27 (by decide)).below (by simpa using Hbl.out)) HB.out _ _

end Go.Proofs.Ytkobdjlpbibobaa
