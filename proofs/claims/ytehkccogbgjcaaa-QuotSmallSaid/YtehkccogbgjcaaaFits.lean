/-
Contract of the reference's Fits. No statement is proved here.
-/
import Derived.Test.YtehkccogbgjcaaaBig7
import Derived.Test.YtehkccogbgjcaaaPow
namespace Go.Proofs.Ytehkccogbgjcaaa
open Go.RowKit

theorem cmpZ_nonneg {a b : Int} (h : b ≤ a) : 0 ≤ cmpZ a b := by unfold cmpZ; split <;> (try split) <;> omega
theorem cmpZ_neg {a b : Int} (h : a < b) : cmpZ a b ≤ -1 := by unfold cmpZ; split <;> (try split) <;> omega

set_option maxHeartbeats 2000000 in
theorem Fits_low (M : Nat) (hM : M ≤ 100000) (s : Bool) (A : Option Addr) (n c k : Nat) (z p : Int) (hp : Hid (p = 2 ^ k)) (w : World) (hk : k ≤ 1000) (h : BV w M s A n c z) (hlt : z < -p) :
    Calls Try.prog 53 #[.agg #[.bool s, .slice A n c], .int .i64 k] w (Says w (.bool false)) := by
  have H := hide fun w' (hb : Bel (One w s A n c) w') => (h.below ((One.below _ _ _ _ _).trans (hb.mono (by rw [One.size]; omega)))).more (show M ≤ M + k + 6 by omega)
  have HB := hide fun w' (hb : Bel (One w s A n c) w') => (One.below w s A n c).trans (hb.mono (by rw [One.size]; omega))
  have H4 := hide (One.args w s A n c)
  have Hcm := Lib.hid (cmpZ_lt hlt)
  clear h hlt
  go_enter Try.func53, Try.ntmps53
  go_wp2_with fail
  obtain ⟨q1, q2⟩ := H4.out _ (One.start _ _ _ _ _)
  first | (go_region_with
    (first
      | (go_at_call 83; refine (Pow_any k hk _).mono ?_; rintro e w1 ⟨s1, A1, n1, c1, rfl, hB1, hb1⟩; have hk1 : Bel (One w s A n c) w1 := Bel.trans (by first | assumption | exact One.start _ _ _ _ _ | exact Bel.drew (One.start _ _ _ _ _) | (refine Bel.drew ?_; assumption)) hb1; obtain ⟨q1, q2⟩ := H4.out _ hk1)
      | (go_at_call 82; refine (Neg_any (5 + k) _ _ _ _ _ _ (by assumption)).mono ?_; rintro e w2 ⟨s2, A2, n2, c2, rfl, hB2, hb2⟩; have hk2 : Bel (One w s A n c) w2 := Bel.trans (by first | assumption | exact One.start _ _ _ _ _ | exact Bel.drew (One.start _ _ _ _ _) | (refine Bel.drew ?_; assumption)) hb2; obtain ⟨q3, q4⟩ := H4.out _ hk2)
      | (go_at_call 54; rw [← hp.out] at hB2; refine (Cmp_any (M + k + 6) (by omega) _ _ _ _ _ _ _ _ z (-p) _ (H.out _ (by first | assumption | exact One.start _ _ _ _ _ | exact Bel.drew (One.start _ _ _ _ _) | (refine Bel.drew ?_; assumption))) (hB2.more (by omega))).mono ?_; rw [Hcm.out]; rintro e w3 ⟨rfl, hb3⟩; have hk3 : Bel (One w s A n c) w3 := Bel.trans (by first | assumption | exact One.start _ _ _ _ _ | exact Bel.drew (One.start _ _ _ _ _) | (refine Bel.drew ?_; assumption)) hb3; obtain ⟨q5, q6⟩ := H4.out _ hk3))) | fail
  all_goals (have hfin := HB.out _ hk3; go_wp2_with fail; go_ret; exact ⟨rfl, hfin⟩)

set_option maxHeartbeats 2000000 in
theorem Fits_in (M : Nat) (hM : M ≤ 100000) (s : Bool) (A : Option Addr) (n c k : Nat) (z p : Int) (hp : Hid (p = 2 ^ k)) (w : World) (hk : k ≤ 1000) (h : BV w M s A n c z) (hcm : decide (0 ≤ cmpZ z (-p)) = true) :
    Calls Try.prog 53 #[.agg #[.bool s, .slice A n c], .int .i64 k] w (Says w (.bool (decide (cmpZ z p < 0)))) := by
  have H := hide fun w' (hb : Bel (One w s A n c) w') => (h.below ((One.below _ _ _ _ _).trans (hb.mono (by rw [One.size]; omega)))).more (show M ≤ M + k + 6 by omega)
  have HB := hide fun w' (hb : Bel (One w s A n c) w') => (One.below w s A n c).trans (hb.mono (by rw [One.size]; omega))
  have H4 := hide (One.args w s A n c)
  clear h
  go_enter Try.func53, Try.ntmps53
  go_wp2_with fail
  go_region_held3 (fun w' => w'.cell? ⟨w.heap.size, 0, none⟩ = some (.bool s) ∧ w'.cell? ⟨w.heap.size, 1, none⟩ = some (.slice A n c))
    ((refine H4.out _ ?_; first | assumption | exact One.start _ _ _ _ _ | exact Bel.drew (One.start _ _ _ _ _) | (refine Bel.drew ?_; assumption)))
    (first
      | (go_at_call 82; refine (Neg_any (5 + k) _ _ _ _ _ _ (by assumption)).mono ?_; rintro e w2 ⟨s2, A2, n2, c2, rfl, hB2, hb2⟩; rw [← hp.out] at hB2; have hk2 : Bel (One w s A n c) w2 := Bel.trans (by first | assumption | exact One.start _ _ _ _ _ | exact Bel.drew (One.start _ _ _ _ _) | (refine Bel.drew ?_; assumption)) hb2; clear hB1)
      | (go_at_call 54; refine (Cmp_any (M + k + 6) (by omega) _ _ _ _ _ _ _ _ z (-p) _ (H.out _ (by first | assumption | exact One.start _ _ _ _ _ | exact Bel.drew (One.start _ _ _ _ _) | (refine Bel.drew ?_; assumption))) (hB2.more (by omega))).mono ?_; rintro e w3 ⟨rfl, hb3⟩; have hk3 : Bel (One w s A n c) w3 := Bel.trans (by first | assumption | exact One.start _ _ _ _ _ | exact Bel.drew (One.start _ _ _ _ _) | (refine Bel.drew ?_; assumption)) hb3; clear hB2)
      | (go_at_call 54; rw [← hp.out] at hB1; refine (Cmp_any (M + k + 6) (by omega) _ _ _ _ _ _ _ _ z p _ (H.out _ (by first | assumption | exact One.start _ _ _ _ _ | exact Bel.drew (One.start _ _ _ _ _) | (refine Bel.drew ?_; assumption))) (hB1.more (by omega))).mono ?_; rintro e w5 ⟨rfl, hb5⟩; have hk5 : Bel (One w s A n c) w5 := Bel.trans (by first | assumption | exact One.start _ _ _ _ _ | exact Bel.drew (One.start _ _ _ _ _) | (refine Bel.drew ?_; assumption)) hb5)
      | (go_at_call 83; refine (Pow_any k hk _).mono ?_; rintro e w1 ⟨s1, A1, n1, c1, rfl, hB1, hb1⟩; have hk1 : Bel (One w s A n c) w1 := Bel.trans (by first | assumption | exact One.start _ _ _ _ _ | exact Bel.drew (One.start _ _ _ _ _) | (refine Bel.drew ?_; assumption)) hb1))
  have hfin := HB.out _ hk5
  go_wp2_with fail
  go_ret
  exact ⟨rfl, hfin⟩

/-- Does the number fit? -/
theorem Fits_any (M : Nat) (hM : M ≤ 100000) (s : Bool) (A : Option Addr) (n c k : Nat) (z : Int) (w : World) (hk : k ≤ 1000) (h : BV w M s A n c z) :
    Calls Try.prog 53 #[.agg #[.bool s, .slice A n c], .int .i64 k] w (Says w (.bool (decide (-(2 ^ k) ≤ z ∧ z < 2 ^ k)))) := by
  by_cases hlt : z < -(2 ^ k : Int)
  · have e : decide (-(2 ^ k) ≤ z ∧ z < 2 ^ k) = false := by simp; omega
    rw [e]
    exact Fits_low M hM s A n c k z (2 ^ k) rfl w hk h hlt
  · have e : decide (-(2 ^ k) ≤ z ∧ z < 2 ^ k) = decide (cmpZ z (2 ^ k) < 0) := by
      rw [decide_eq_decide]
      by_cases h2 : z < 2 ^ k
      · rw [cmpZ_lt h2]; simp; omega
      · constructor
        · omega
        · intro h3; have := cmpZ_nonneg (a := z) (b := 2 ^ k) (by omega); omega
    rw [e]
    exact Fits_in M hM s A n c k z (2 ^ k) rfl w hk h (by have := cmpZ_nonneg (a := z) (b := -(2 ^ k)) (by omega); simpa using this)

end Go.Proofs.Ytehkccogbgjcaaa
