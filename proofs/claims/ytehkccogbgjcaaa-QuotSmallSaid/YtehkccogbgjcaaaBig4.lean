/-
Contracts of the reference's whole numbers: Add, Sub, Cmp. No statement is proved here.
-/
import Derived.Test.YtehkccogbgjcaaaBig3
namespace Go.Proofs.Ytehkccogbgjcaaa
open Go.RowKit

theorem sum_nw (M : Nat) (hM : M ≤ 1000000) (A A' : Option Addr) (n n' c c' v v' : Nat) (w : World) (h : NW w M A n c v) (h' : NW w M A' n' c' v') :
    Calls Try.prog 81 #[.slice A n c, .slice A' n' c'] w (Made w (M + 1) (v + v')) := by
  obtain ⟨l, h1, h2, h3, rfl, h5⟩ := h
  obtain ⟨l', g1, g2, g3, rfl, g5⟩ := h'
  exact sum_any M hM A A' n n' c c' l l' w h5 g5 h1 g1 h2 g2
theorem rest_nw (M M' : Nat) (hM : M ≤ 1000000) (A A' : Option Addr) (n n' c c' v v' : Nat) (w : World) (h : NW w M A n c v) (h' : NW w M' A' n' c' v') (hle : v' ≤ v) :
    Calls Try.prog 79 #[.slice A n c, .slice A' n' c'] w (Made w M (v - v')) := by
  obtain ⟨l, h1, h2, h3, rfl, h5⟩ := h
  obtain ⟨l', g1, g2, g3, rfl, g5⟩ := h'
  exact rest_any M hM A A' n n' c c' l l' w h5 h1 g1 h2 g2 g3 hle
theorem less_nw (M M' : Nat) (A A' : Option Addr) (n n' c c' v v' : Nat) (w : World) (h : NW w M A n c v) (h' : NW w M' A' n' c' v') :
    Calls Try.prog 78 #[.slice A n c, .slice A' n' c'] w fun e w' => e = .returned (.int .i64 (cmpN v v')) ∧ w = w' := by
  obtain ⟨l, h1, h2, h3, rfl, h5⟩ := h
  obtain ⟨l', g1, g2, g3, rfl, g5⟩ := h'
  exact less_any A A' n n' c c' l l' w h1 g1 h2 g2

/-- two boxes for the arguments, one for the answer -/
def Three (w : World) (s s' : Bool) (A A' : Option Addr) (n n' c c' : Nat) : World :=
  ((w.alloc (.cells #[.bool s, .slice A n c] 24)).alloc (.cells #[.bool s', .slice A' n' c'] 24)).alloc (.cells #[.bool false, .slice none 0 0] 24)
theorem Three.below (w : World) (s s' : Bool) (A A' : Option Addr) (n n' c c' : Nat) : Below w.heap.size w (Three w s s' A A' n n' c c') := below_alloc3 w _ _ _
theorem Three.start (w : World) (s s' : Bool) (A A' : Option Addr) (n n' c c' : Nat) : Bel (Three w s s' A A' n n' c c') (((w.alloc (.cells #[.bool s, .slice A n c] 24)).alloc (.cells #[.bool s', .slice A' n' c'] 24)).alloc (.cells #[.bool false, .slice none 0 0] 24)) := Bel.refl _
theorem Three.size (w : World) (s s' : Bool) (A A' : Option Addr) (n n' c c' : Nat) : (Three w s s' A A' n n' c c').heap.size = w.heap.size + 3 := by simp [Three]
theorem Three.cells (w : World) (s s' : Bool) (A A' : Option Addr) (n n' c c' : Nat) (w' : World) (h : Bel (Three w s s' A A' n n' c c') w') :
    Bel (Three w s s' A A' n n' c c') w' ∧ w'.cell? ⟨w.heap.size, 0, none⟩ = some (.bool s) ∧ w'.cell? ⟨w.heap.size, 1, none⟩ = some (.slice A n c) ∧ w'.cell? ⟨w.heap.size + 1, 0, none⟩ = some (.bool s') ∧ w'.cell? ⟨w.heap.size + 1, 1, none⟩ = some (.slice A' n' c') ∧
      w'.cell? ⟨w.heap.size + 1 + 1, 0, none⟩ = some (.bool false) ∧ w'.cell? ⟨w.heap.size + 1 + 1, 1, none⟩ = some (.slice none 0 0) ∧ w'.frozen? ⟨w.heap.size + 1 + 1, 0, none⟩ = false ∧ w'.frozen? ⟨w.heap.size + 1 + 1, 1, none⟩ = false := by
  have hz := Three.size w s s' A A' n n' c c'
  refine ⟨h, ?_, ?_, ?_, ?_, ?_, ?_, ?_, ?_⟩
  · rw [h.cell 0 (by omega)]; simp [Three, go_sem]
  · rw [h.cell 1 (by omega)]; simp [Three, go_sem]
  · rw [h.cell 0 (by omega)]; simp [Three, go_sem]
  · rw [h.cell 1 (by omega)]; simp [Three, go_sem]
  · rw [h.cell 0 (by omega)]; simp [Three, go_sem]
  · rw [h.cell 1 (by omega)]; simp [Three, go_sem]
  · rw [h.frozen 0 (by omega)]; simp [Three, go_sem]
  · rw [h.frozen 1 (by omega)]; simp [Three, go_sem]
/-- the arguments' cells, also behind the store of the answer -/
theorem Three.args (w : World) (s s' : Bool) (A A' : Option Addr) (n n' c c' : Nat) (w' : World) (h : Bel (Three w s s' A A' n n' c c') w') :
    w'.cell? ⟨w.heap.size, 0, none⟩ = some (.bool s) ∧ w'.cell? ⟨w.heap.size, 1, none⟩ = some (.slice A n c) ∧ w'.cell? ⟨w.heap.size + 1, 0, none⟩ = some (.bool s') ∧ w'.cell? ⟨w.heap.size + 1, 1, none⟩ = some (.slice A' n' c') := by
  have h := Three.cells w s s' A A' n n' c c' w' h
  exact ⟨h.2.1, h.2.2.1, h.2.2.2.1, h.2.2.2.2.1⟩
theorem cell_far {w : World} {b i g k : Nat} {u v x : Value} (hne : b ≠ g) (h : w.cell? ⟨b, i, none⟩ = some x) : ((w.setCell ⟨g, k, none⟩ u).setCell ⟨g, k + 1, none⟩ v).cell? ⟨b, i, none⟩ = some x := by
  rw [World.cell?_setCell_other _ _ _ _ (fun e => hne (by injection e with e; exact e.symm)), World.cell?_setCell_other _ _ _ _ (fun e => hne (by injection e with e; exact e.symm))]
  exact h
theorem Three.after (w : World) (s s' : Bool) (A A' : Option Addr) (n n' c c' : Nat) (w' : World) (u v : Value) (h : Bel (Three w s s' A A' n n' c c') w') :
    ((w'.setCell ⟨w.heap.size + 1 + 1, 0, none⟩ u).setCell ⟨w.heap.size + 1 + 1, 1, none⟩ v).cell? ⟨w.heap.size, 0, none⟩ = some (.bool s) ∧ ((w'.setCell ⟨w.heap.size + 1 + 1, 0, none⟩ u).setCell ⟨w.heap.size + 1 + 1, 1, none⟩ v).cell? ⟨w.heap.size, 1, none⟩ = some (.slice A n c) ∧
      ((w'.setCell ⟨w.heap.size + 1 + 1, 0, none⟩ u).setCell ⟨w.heap.size + 1 + 1, 1, none⟩ v).cell? ⟨w.heap.size + 1, 0, none⟩ = some (.bool s') ∧ ((w'.setCell ⟨w.heap.size + 1 + 1, 0, none⟩ u).setCell ⟨w.heap.size + 1 + 1, 1, none⟩ v).cell? ⟨w.heap.size + 1, 1, none⟩ = some (.slice A' n' c') := by
  have h := Three.args w s s' A A' n n' c c' w' h
  exact ⟨cell_far (by omega) h.1, cell_far (by omega) h.2.1, cell_far (by omega) h.2.2.1, cell_far (by omega) h.2.2.2⟩
theorem Three.box (w : World) (s s' : Bool) (A A' : Option Addr) (n n' c c' : Nat) (w' : World) (h : Bel (Three w s s' A A' n n' c c') w') : Box w' (w.heap.size + 1 + 1) := by
  have := (Box.new ((w.alloc (.cells #[.bool s, .slice A n c] 24)).alloc (.cells #[.bool s', .slice A' n' c'] 24)) #[.bool false, .slice none 0 0] 24 (by decide)).below h
  simpa using this

set_option maxHeartbeats 2000000 in
theorem Add_same (M : Nat) (hM : M ≤ 1000000) (s : Bool) (A A' : Option Addr) (n n' c c' v v' : Nat) (w : World) (h : NW w M A n c v) (h' : NW w M A' n' c' v') (z : Int) (hz : Hid ((if s = true then -((v + v' : Nat) : Int) else (v + v' : Nat)) = z)) :
    Calls Try.prog 52 #[.agg #[.bool s, .slice A n c], .agg #[.bool s, .slice A' n' c']] w (MadeB w (M + 1) z) := by
  have H := hide fun w' (hb : Bel (Three w s s A A' n n' c c') w') => h.below ((Three.below _ _ _ _ _ _ _ _ _).trans (hb.mono (by rw [Three.size]; omega)))
  have H' := hide fun w' (hb : Bel (Three w s s A A' n n' c c') w') => h'.below ((Three.below _ _ _ _ _ _ _ _ _).trans (hb.mono (by rw [Three.size]; omega)))
  have HS := hide (Three.cells w s s A A' n n' c c')
  have HX := hide (Three.box w s s A A' n n' c c')
  have HB := hide fun w' (hb : Bel (Three w s s A A' n n' c c') w') => (Three.below _ _ _ _ _ _ _ _ _).trans (hb.mono (by rw [Three.size]; omega))
  have H4 := hide (Three.args w s s A A' n n' c c')
  have H5 := hide (Three.after w s s A A' n n' c c')
  have hss : (s == s) = true := by simp
  clear h h'
  go_enter Try.func52, Try.ntmps52
  go_wp2_with fail
  go_region_held3 (fun w' => w'.cell? ⟨w.heap.size, 0, none⟩ = some (.bool s) ∧ w'.cell? ⟨w.heap.size, 1, none⟩ = some (.slice A n c) ∧ w'.cell? ⟨w.heap.size + 1, 0, none⟩ = some (.bool s) ∧ w'.cell? ⟨w.heap.size + 1, 1, none⟩ = some (.slice A' n' c'))
    (first | (refine H4.out _ ?_; first | assumption | exact Three.start _ _ _ _ _ _ _ _ _ | exact Bel.drew (Three.start _ _ _ _ _ _ _ _ _) | (refine Bel.drew ?_; assumption)) | (refine H5.out _ _ _ ?_; assumption))
    (first
      | (go_at_call 81; refine (sum_nw M hM _ _ _ _ _ _ v v' _ (H.out _ (by first | assumption | exact Three.start _ _ _ _ _ _ _ _ _ | exact Bel.drew (Three.start _ _ _ _ _ _ _ _ _) | (refine Bel.drew ?_; assumption))) (H'.out _ (by first | assumption | exact Three.start _ _ _ _ _ _ _ _ _ | exact Bel.drew (Three.start _ _ _ _ _ _ _ _ _) | (refine Bel.drew ?_; assumption)))).mono ?_; rintro e w1 ⟨A1, n1, c1, rfl, hN1, hb1⟩; have hk1 : Bel (Three w s s A A' n n' c c') w1 := Bel.trans (by first | assumption | exact Three.start _ _ _ _ _ _ _ _ _ | exact Bel.drew (Three.start _ _ _ _ _ _ _ _ _) | (refine Bel.drew ?_; assumption)) hb1)
      | (go_at_call 80; refine (made_any (M + 1) s _ _ _ (v + v') _ (by assumption)).mono ?_; rintro e w2 ⟨s2, A2, n2, c2, rfl, hB2, hb2⟩; have hk2 : Bel (Three w s s A A' n n' c c') w2 := Bel.trans (by first | assumption | exact Three.start _ _ _ _ _ _ _ _ _ | exact Bel.drew (Three.start _ _ _ _ _ _ _ _ _) | (refine Bel.drew ?_; assumption)) hb2; obtain ⟨_, q1, q2, q3, q4, q5, q6, q7, q8⟩ := HS.out _ hk2))
  rw [hz.out] at hB2
  have HB2 := hide hB2
  have HK2 := hide hk2
  clear hB2 hk2
  go_wp2_with fail
  refine bodyPost_ret (v := .agg #[.bool s2, .slice A2 n2 c2]) (by simp [results, Try.results52, go_sem, q5, q6]) rfl ?_
  exact MadeB.fin (HB.out _ HK2.out) (by omega) (HX.out _ HK2.out) HB2.out _ _

set_option maxHeartbeats 2000000 in
theorem Add_ge (M : Nat) (hM : M ≤ 1000000) (s s1 : Bool) (A A' : Option Addr) (n n' c c' v v' : Nat) (w : World) (h : NW w M A n c v) (h' : NW w M A' n' c' v') (hss : (s == s1) = false) (hle : v' ≤ v) (z : Int) (hz : Hid ((if s = true then -((v - v' : Nat) : Int) else (v - v' : Nat)) = z)) :
    Calls Try.prog 52 #[.agg #[.bool s, .slice A n c], .agg #[.bool s1, .slice A' n' c']] w (MadeB w (M + 1) z) := by
  have H := hide fun w' (hb : Bel (Three w s s1 A A' n n' c c') w') => h.below ((Three.below _ _ _ _ _ _ _ _ _).trans (hb.mono (by rw [Three.size]; omega)))
  have H' := hide fun w' (hb : Bel (Three w s s1 A A' n n' c c') w') => h'.below ((Three.below _ _ _ _ _ _ _ _ _).trans (hb.mono (by rw [Three.size]; omega)))
  have HS := hide (Three.cells w s s1 A A' n n' c c')
  have HX := hide (Three.box w s s1 A A' n n' c c')
  have HB := hide fun w' (hb : Bel (Three w s s1 A A' n n' c c') w') => (Three.below _ _ _ _ _ _ _ _ _).trans (hb.mono (by rw [Three.size]; omega))
  have H4 := hide (Three.args w s s1 A A' n n' c c')
  have H5 := hide (Three.after w s s1 A A' n n' c c')
  have hge : 0 ≤ cmpN v v' := by unfold cmpN; split <;> (try split) <;> omega
  clear h h'
  go_enter Try.func52, Try.ntmps52
  go_wp2_with (go_at_call 78; refine (less_nw M M _ _ _ _ _ _ v v' _ (H.out _ (by first | assumption | exact Three.start _ _ _ _ _ _ _ _ _ | exact Bel.drew (Three.start _ _ _ _ _ _ _ _ _) | (refine Bel.drew ?_; assumption))) (H'.out _ (by first | assumption | exact Three.start _ _ _ _ _ _ _ _ _ | exact Bel.drew (Three.start _ _ _ _ _ _ _ _ _) | (refine Bel.drew ?_; assumption)))).mono ?_; rintro e w' ⟨rfl, rfl⟩)
  go_region_held3 (fun w' => w'.cell? ⟨w.heap.size, 0, none⟩ = some (.bool s) ∧ w'.cell? ⟨w.heap.size, 1, none⟩ = some (.slice A n c) ∧ w'.cell? ⟨w.heap.size + 1, 0, none⟩ = some (.bool s1) ∧ w'.cell? ⟨w.heap.size + 1, 1, none⟩ = some (.slice A' n' c'))
    (first | (refine H4.out _ ?_; first | assumption | exact Three.start _ _ _ _ _ _ _ _ _ | exact Bel.drew (Three.start _ _ _ _ _ _ _ _ _) | (refine Bel.drew ?_; assumption)) | (refine H5.out _ _ _ ?_; assumption))
    (first
      | (go_at_call 79; refine (rest_nw M M hM _ _ _ _ _ _ v v' _ (H.out _ (by first | assumption | exact Three.start _ _ _ _ _ _ _ _ _ | exact Bel.drew (Three.start _ _ _ _ _ _ _ _ _) | (refine Bel.drew ?_; assumption))) (H'.out _ (by first | assumption | exact Three.start _ _ _ _ _ _ _ _ _ | exact Bel.drew (Three.start _ _ _ _ _ _ _ _ _) | (refine Bel.drew ?_; assumption))) hle).mono ?_; rintro e w1 ⟨A1, n1, c1, rfl, hN1, hb1⟩; have hk1 : Bel (Three w s s1 A A' n n' c c') w1 := Bel.trans (by first | assumption | exact Three.start _ _ _ _ _ _ _ _ _ | exact Bel.drew (Three.start _ _ _ _ _ _ _ _ _) | (refine Bel.drew ?_; assumption)) hb1)
      | (go_at_call 80; refine (made_any M s _ _ _ (v - v') _ (by assumption)).mono ?_; rintro e w2 ⟨s2, A2, n2, c2, rfl, hB2, hb2⟩; have hk2 : Bel (Three w s s1 A A' n n' c c') w2 := Bel.trans (by first | assumption | exact Three.start _ _ _ _ _ _ _ _ _ | exact Bel.drew (Three.start _ _ _ _ _ _ _ _ _) | (refine Bel.drew ?_; assumption)) hb2; obtain ⟨_, q1, q2, q3, q4, q5, q6, q7, q8⟩ := HS.out _ hk2))
  rw [hz.out] at hB2
  replace hB2 := hB2.more (Nat.le_succ M)
  have HB2 := hide hB2
  have HK2 := hide hk2
  clear hB2 hk2
  go_wp2_with fail
  refine bodyPost_ret (v := .agg #[.bool s2, .slice A2 n2 c2]) (by simp [results, Try.results52, go_sem, q5, q6]) rfl ?_
  exact MadeB.fin (HB.out _ HK2.out) (by omega) (HX.out _ HK2.out) HB2.out _ _

set_option maxHeartbeats 2000000 in
theorem Add_lt (M : Nat) (hM : M ≤ 1000000) (s s1 : Bool) (A A' : Option Addr) (n n' c c' v v' : Nat) (w : World) (h : NW w M A n c v) (h' : NW w M A' n' c' v') (hss : (s == s1) = false) (hlt : v < v') (z : Int) (hz : Hid ((if s1 = true then -((v' - v : Nat) : Int) else (v' - v : Nat)) = z)) :
    Calls Try.prog 52 #[.agg #[.bool s, .slice A n c], .agg #[.bool s1, .slice A' n' c']] w (MadeB w (M + 1) z) := by
  have H := hide fun w' (hb : Bel (Three w s s1 A A' n n' c c') w') => h.below ((Three.below _ _ _ _ _ _ _ _ _).trans (hb.mono (by rw [Three.size]; omega)))
  have H' := hide fun w' (hb : Bel (Three w s s1 A A' n n' c c') w') => h'.below ((Three.below _ _ _ _ _ _ _ _ _).trans (hb.mono (by rw [Three.size]; omega)))
  have HS := hide (Three.cells w s s1 A A' n n' c c')
  have HX := hide (Three.box w s s1 A A' n n' c c')
  have HB := hide fun w' (hb : Bel (Three w s s1 A A' n n' c c') w') => (Three.below _ _ _ _ _ _ _ _ _).trans (hb.mono (by rw [Three.size]; omega))
  have H4 := hide (Three.args w s s1 A A' n n' c c')
  have H5 := hide (Three.after w s s1 A A' n n' c c')
  have hge : cmpN v v' ≤ -1 := by unfold cmpN; split <;> (try split) <;> omega
  clear h h'
  go_enter Try.func52, Try.ntmps52
  go_wp2_with (go_at_call 78; refine (less_nw M M _ _ _ _ _ _ v v' _ (H.out _ (by first | assumption | exact Three.start _ _ _ _ _ _ _ _ _ | exact Bel.drew (Three.start _ _ _ _ _ _ _ _ _) | (refine Bel.drew ?_; assumption))) (H'.out _ (by first | assumption | exact Three.start _ _ _ _ _ _ _ _ _ | exact Bel.drew (Three.start _ _ _ _ _ _ _ _ _) | (refine Bel.drew ?_; assumption)))).mono ?_; rintro e w' ⟨rfl, rfl⟩)
  go_region_held3 (fun w' => w'.cell? ⟨w.heap.size, 0, none⟩ = some (.bool s) ∧ w'.cell? ⟨w.heap.size, 1, none⟩ = some (.slice A n c) ∧ w'.cell? ⟨w.heap.size + 1, 0, none⟩ = some (.bool s1) ∧ w'.cell? ⟨w.heap.size + 1, 1, none⟩ = some (.slice A' n' c'))
    (first | (refine H4.out _ ?_; first | assumption | exact Three.start _ _ _ _ _ _ _ _ _ | exact Bel.drew (Three.start _ _ _ _ _ _ _ _ _) | (refine Bel.drew ?_; assumption)) | (refine H5.out _ _ _ ?_; assumption))
    (first
      | (go_at_call 79; refine (rest_nw M M hM _ _ _ _ _ _ v' v _ (H'.out _ (by first | assumption | exact Three.start _ _ _ _ _ _ _ _ _ | exact Bel.drew (Three.start _ _ _ _ _ _ _ _ _) | (refine Bel.drew ?_; assumption))) (H.out _ (by first | assumption | exact Three.start _ _ _ _ _ _ _ _ _ | exact Bel.drew (Three.start _ _ _ _ _ _ _ _ _) | (refine Bel.drew ?_; assumption))) (Nat.le_of_lt hlt)).mono ?_; rintro e w1 ⟨A1, n1, c1, rfl, hN1, hb1⟩; have hk1 : Bel (Three w s s1 A A' n n' c c') w1 := Bel.trans (by first | assumption | exact Three.start _ _ _ _ _ _ _ _ _ | exact Bel.drew (Three.start _ _ _ _ _ _ _ _ _) | (refine Bel.drew ?_; assumption)) hb1)
      | (go_at_call 80; refine (made_any M s1 _ _ _ (v' - v) _ (by assumption)).mono ?_; rintro e w2 ⟨s2, A2, n2, c2, rfl, hB2, hb2⟩; have hk2 : Bel (Three w s s1 A A' n n' c c') w2 := Bel.trans (by first | assumption | exact Three.start _ _ _ _ _ _ _ _ _ | exact Bel.drew (Three.start _ _ _ _ _ _ _ _ _) | (refine Bel.drew ?_; assumption)) hb2; obtain ⟨_, q1, q2, q3, q4, q5, q6, q7, q8⟩ := HS.out _ hk2))
  rw [hz.out] at hB2
  replace hB2 := hB2.more (Nat.le_succ M)
  have HB2 := hide hB2
  have HK2 := hide hk2
  clear hB2 hk2
  go_wp2_with fail
  refine bodyPost_ret (v := .agg #[.bool s2, .slice A2 n2 c2]) (by simp [results, Try.results52, go_sem, q5, q6]) rfl ?_
  exact MadeB.fin (HB.out _ HK2.out) (by omega) (HX.out _ HK2.out) HB2.out _ _

theorem Add_any (M : Nat) (hM : M ≤ 1000000) (s s' : Bool) (A A' : Option Addr) (n n' c c' : Nat) (z z' : Int) (w : World) (h : BV w M s A n c z) (h' : BV w M s' A' n' c' z') :
    Calls Try.prog 52 #[.agg #[.bool s, .slice A n c], .agg #[.bool s', .slice A' n' c']] w (MadeB w (M + 1) (z + z')) := by
  obtain ⟨v, h1, h2, rfl⟩ := h
  obtain ⟨v', g1, g2, rfl⟩ := h'
  by_cases e : s = s'
  · subst e
    exact Add_same M hM s A A' n n' c c' v v' w h1 g1 _ (by show _ = _; cases s <;> simp <;> omega)
  · have hss : (s == s') = false := by simpa using e
    have e2 : s' = !s := by cases s <;> cases s' <;> simp_all
    by_cases hle : v' ≤ v
    · exact Add_ge M hM s s' A A' n n' c c' v v' w h1 g1 hss hle _ (by show _ = _; subst e2; cases s <;> simp <;> omega)
    · exact Add_lt M hM s s' A A' n n' c c' v v' w h1 g1 hss (by omega) _ (by show _ = _; subst e2; cases s <;> simp <;> omega)

end Go.Proofs.Ytehkccogbgjcaaa
