/-
Contracts of the reference's whole numbers: Sub, Cmp, Pow, Wide, Fits. No statement is proved here.
-/
import Derived.Test.YtehkccogbgjcaaaBig4
namespace Go.Proofs.Ytehkccogbgjcaaa
open Go.RowKit

set_option maxHeartbeats 2000000 in
theorem Sub_any (M : Nat) (hM : M ≤ 1000000) (s s1 : Bool) (A A' : Option Addr) (n n' c c' : Nat) (z z' : Int) (w : World) (h : BV w M s A n c z) (h' : BV w M s1 A' n' c' z') :
    Calls Try.prog 55 #[.agg #[.bool s, .slice A n c], .agg #[.bool s1, .slice A' n' c']] w (MadeB w (M + 1) (z - z')) := by
  have H := hide fun w' (hb : Bel (Three w s s1 A A' n n' c c') w') => h.below ((Three.below _ _ _ _ _ _ _ _ _).trans (hb.mono (by rw [Three.size]; omega)))
  have H' := hide fun w' (hb : Bel (Three w s s1 A A' n n' c c') w') => h'.below ((Three.below _ _ _ _ _ _ _ _ _).trans (hb.mono (by rw [Three.size]; omega)))
  have HS := hide (Three.cells w s s1 A A' n n' c c')
  have HX := hide (Three.box w s s1 A A' n n' c c')
  have HB := hide fun w' (hb : Bel (Three w s s1 A A' n n' c c') w') => (Three.below _ _ _ _ _ _ _ _ _).trans (hb.mono (by rw [Three.size]; omega))
  have H4 := hide (Three.args w s s1 A A' n n' c c')
  have H5 := hide (Three.after w s s1 A A' n n' c c')
  clear h h'
  go_enter Try.func55, Try.ntmps55
  go_wp2_with fail
  go_region_held3 (fun w' => w'.cell? ⟨w.heap.size, 0, none⟩ = some (.bool s) ∧ w'.cell? ⟨w.heap.size, 1, none⟩ = some (.slice A n c) ∧ w'.cell? ⟨w.heap.size + 1, 0, none⟩ = some (.bool s1) ∧ w'.cell? ⟨w.heap.size + 1, 1, none⟩ = some (.slice A' n' c'))
    (first | (refine H4.out _ ?_; first | assumption | exact Three.start _ _ _ _ _ _ _ _ _ | exact Bel.drew (Three.start _ _ _ _ _ _ _ _ _) | (refine Bel.drew ?_; assumption)) | (refine H5.out _ _ _ ?_; assumption))
    (first
      | (go_at_call 82; refine (Neg_any M _ _ _ _ z' _ (H'.out _ (by first | assumption | exact Three.start _ _ _ _ _ _ _ _ _ | exact Bel.drew (Three.start _ _ _ _ _ _ _ _ _) | (refine Bel.drew ?_; assumption)))).mono ?_; rintro e w1 ⟨s2, A2, n2, c2, rfl, hB1, hb1⟩; have hkw1 : Bel (Three w s s1 A A' n n' c c') w1 := Bel.trans (by first | assumption | exact Three.start _ _ _ _ _ _ _ _ _ | exact Bel.drew (Three.start _ _ _ _ _ _ _ _ _) | (refine Bel.drew ?_; assumption)) hb1)
      | (go_at_call 52; refine (Add_any M hM _ _ _ _ _ _ _ _ z (-z') _ (H.out _ (by first | assumption | exact Three.start _ _ _ _ _ _ _ _ _ | exact Bel.drew (Three.start _ _ _ _ _ _ _ _ _) | (refine Bel.drew ?_; assumption))) (by assumption)).mono ?_; rintro e w2 ⟨s3, A3, n3, c3, rfl, hB2, hb2⟩; have hkw2 : Bel (Three w s s1 A A' n n' c c') w2 := Bel.trans (by first | assumption | exact Three.start _ _ _ _ _ _ _ _ _ | exact Bel.drew (Three.start _ _ _ _ _ _ _ _ _) | (refine Bel.drew ?_; assumption)) hb2; obtain ⟨_, q1, q2, q3, q4, q5, q6, q7, q8⟩ := HS.out _ hkw2))
  have HB2 := hide hB2
  have HK2 := hide hkw2
  clear hB2 hkw2
  go_wp2_with fail
  refine bodyPost_ret (v := .agg #[.bool s3, .slice A3 n3 c3]) (by simp [results, Try.results55, go_sem, q5, q6]) rfl ?_
  exact MadeB.fin (HB.out _ HK2.out) (by omega) (HX.out _ HK2.out) HB2.out _ _


def cmpZ (a b : Int) : Int := if a < b then -1 else if b < a then 1 else 0
theorem cmpZ_lt {a b : Int} (h : a < b) : cmpZ a b = -1 := by simp [cmpZ, h]
theorem cmpZ_gt {a b : Int} (h : b < a) : cmpZ a b = 1 := by simp [cmpZ, h, show ¬ a < b by omega]
theorem cmpZ_eq {a b : Int} (h : a = b) : cmpZ a b = 0 := by subst h; simp [cmpZ]
theorem BV.sign {w : World} {N : Nat} {s : Bool} {A : Option Addr} {n c : Nat} {z : Int} (h : BV w N s A n c z) : (z = 0 → n = 0 ∧ s = false) ∧ (z < 0 → 0 < n ∧ s = true) ∧ (0 < z → 0 < n ∧ s = false) := by
  obtain ⟨v, h1, h2, rfl⟩ := h
  have hz := h1.zero
  refine ⟨fun h => ?_, fun h => ?_, fun h => ?_⟩
  · cases s
    · simp at h ⊢; exact hz.1 h
    · simp at h h2; omega
  · cases s
    · simp at h; omega
    · simp at h ⊢; omega
  · cases s
    · simp at h ⊢; omega
    · simp at h; omega

set_option maxHeartbeats 1000000 in
theorem Cmp_any (M : Nat) (hM : M ≤ 1000000) (s s1 : Bool) (A A' : Option Addr) (n n' c c' : Nat) (z z' : Int) (w : World) (h : BV w M s A n c z) (h' : BV w M s1 A' n' c' z') :
    Calls Try.prog 54 #[.agg #[.bool s, .slice A n c], .agg #[.bool s1, .slice A' n' c']] w (Says w (.int .i64 (cmpZ z z'))) := by
  have H := hide (h.below (below_alloc2 w (.cells #[.bool s, .slice A n c] 24) (.cells #[.bool s1, .slice A' n' c'] 24)))
  have H' := hide (h'.below (below_alloc2 w (.cells #[.bool s, .slice A n c] 24) (.cells #[.bool s1, .slice A' n' c'] 24)))
  have H2 := hide (below_alloc2 w)
  clear h h'
  go_enter Try.func54, Try.ntmps54
  go_wp2_with fail
  refine (Sub_any M hM _ _ _ _ _ _ _ _ z z' _ H.out H'.out).mono ?_
  rintro e w1 ⟨s2, A2, n2, c2, rfl, hB, hb⟩
  have hsg := hB.sign
  have Hb := hide (((H2.out _ _).trans (hb.mono (by simp; omega))).alloc (by have := hb.size; simp at this; omega) (.cells #[.bool s2, .slice A2 n2 c2] 24))
  clear hB hb
  rcases Int.lt_trichotomy (z - z') 0 with h0 | h0 | h0
  · obtain ⟨hn, rfl⟩ := hsg.2.1 h0
    have hlt : z < z' := by omega
    have hne : ((n2 : Int) == 0) = false := by rw [beq_eq_false_iff_ne]; omega
    clear hsg h0
    go_wp2_with fail
    go_ret
    exact ⟨by rw [cmpZ_lt (by omega)]; rfl, Hb.out⟩
  · obtain ⟨rfl, rfl⟩ := hsg.1 h0
    have Hz := Lib.hid h0
    clear hsg h0
    go_wp2_with fail
    go_ret
    exact ⟨by rw [cmpZ_eq (by have := Hz.out; omega)]; rfl, Hb.out⟩
  · obtain ⟨hn, rfl⟩ := hsg.2.2 h0
    have hlt : z' < z := by omega
    have hne : ((n2 : Int) == 0) = false := by rw [beq_eq_false_iff_ne]; omega
    clear hsg h0
    go_wp2_with fail
    go_ret
    exact ⟨by rw [cmpZ_gt (by omega)]; rfl, Hb.out⟩

end Go.Proofs.Ytehkccogbgjcaaa
