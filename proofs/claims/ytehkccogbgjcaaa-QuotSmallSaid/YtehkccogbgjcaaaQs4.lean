/-
Told of layer 2's law; the chapter's examples. No statement is proved here.
-/
import Derived.Test.YtehkccogbgjcaaaFlo3
import Derived.Test.YtehkccogbgjcaaaQuo1
import Derived.Test.YtehkccogbgjcaaaFits
import Derived.BigQuiet
import Derived.Deep.QuietTactic
namespace Go.Proofs.Ytehkccogbgjcaaa
open Go.RowKit

/-- whether an int64, and true, are a number that has room, if there is one -/
def toldB (x : Int) (is : Bool) (z : Int) (has : Bool) : Bool := if has = true ∧ (-(2 ^ 63) ≤ z ∧ z < 2 ^ 63) then (is && decide (cmpZ x z = 0)) else (decide (x = 0) && !is)
theorem alive02_any (w : World) : Calls Try.prog 19 #[] w fun e w' => e = .returned (.bool true) ∧ w = w' := by
  have H1 := hide (QFloor_any (-7) 2 w (by decide) (by decide) (by decide) (by decide))
  have H2 := hide (QMod_any (-7) 2 w (by decide) (by decide))
  have H3 := hide (QNear_any (-7) 2 w (by decide) (by decide) (by decide) (by decide))
  have H4 := hide (QMod_any 7 (-2) w (by decide) (by decide))
  rw [show Int.fdiv (-7) 2 = -4 by decide] at H1 H2
  rw [show (-7 : Int) - (-4) * 2 = 1 by decide] at H2
  rw [show Int.fdiv (-7 + -7 + 2) (2 + 2) = -3 by decide] at H3
  rw [show (7 : Int) - Int.fdiv 7 (-2) * (-2) = -1 by decide] at H4
  go_enter Try.func19, Try.ntmps19
  go_wp2_with fail
  refine H1.out.mono ?_
  rintro e w1 ⟨rfl, rfl⟩
  go_wp2_with fail
  refine H2.out.mono ?_
  rintro e w1 ⟨rfl, rfl⟩
  go_wp2_with fail
  refine H3.out.mono ?_
  rintro e w1 ⟨rfl, rfl⟩
  go_wp2_with fail
  refine H4.out.mono ?_
  rintro e w1 ⟨rfl, rfl⟩
  go_wp2_with fail
  go_ret
  exact ⟨rfl, rfl⟩
set_option maxHeartbeats 2000000 in
theorem told_any (M : Nat) (hM : M ≤ 10000) (h5 : 5 ≤ M) (x : Int) (is : Bool) (s : Bool) (A : Option Addr) (n c : Nat) (z : Int) (has : Bool) (w : World) (h : BV w M s A n c z) (hx : -9223372036854775808 ≤ x ∧ x ≤ 9223372036854775807) :
    Calls Try.prog 17 #[.int .i64 x, .bool is, .agg #[.bool s, .slice A n c], .bool has] w (Says w (.bool (toldB x is z has))) := by
  have H0 := hide (below_alloc w (.cells #[.bool s, .slice A n c] 24))
  have B0 := hide (Bx.at (w := w) (g := w.heap.size) [.bool s, .slice A n c] 24 rfl)
  obtain ⟨_, a0, a1, _, _⟩ := B0.out.two
  obtain ⟨r, hr⟩ : ∃ r, toldB x is z has = r := ⟨_, rfl⟩
  rw [hr]
  unfold toldB at hr
  cases has
  · rw [if_neg (by simp)] at hr
    have hr' : (x == 0 && !is) = r := hr
    have HR := Lib.hid hr'
    clear hr hr' h
    cases is
    all_goals
      go_enter Try.func17, Try.ntmps17
      go_wp2_with fail
      all_goals (go_ret; exact ⟨congrArg (fun b => Ending.returned (Value.bool b)) (by rw [← HR.out]; simp [*]), H0.out⟩)
  · have HF := hide (fun w (h : BV w M s A n c z) => Fits_any M (by omega) s A n c 63 z w (by omega) h)
    have HV := hide (fun w' (hb : Below w.heap.size w w') => h.below hb)
    have HN : Int.toNat 63 = 63 := rfl
    obtain ⟨g, hg⟩ : ∃ g, decide (-(2 ^ 63) ≤ z ∧ z < 2 ^ 63) = g := ⟨_, rfl⟩
    rw [hg] at HF
    clear h
    cases g
    · rw [if_neg (by simpa using of_decide_eq_false hg)] at hr
      have hr' : (x == 0 && !is) = r := hr
      have HR := Lib.hid hr'
      clear hr hr' hg
      cases is
      all_goals
        go_enter Try.func17, Try.ntmps17
        go_wp2_with fail
        refine (HF.out _ (HV.out _ H0.out)).mono ?_
        rintro e w1 ⟨rfl, hb⟩
        have L1 := hide (H0.out.trans (hb.mono H0.out.size))
        clear hb a0 a1
        go_wp2_with fail
        all_goals (go_ret; exact ⟨congrArg (fun b => Ending.returned (Value.bool b)) (by rw [← HR.out]; simp [*]), L1.out⟩)
    · rw [if_pos ⟨rfl, of_decide_eq_true hg⟩] at hr
      have hr' : (is && (cmpZ x z == 0)) = r := hr
      have HR := Lib.hid hr'
      have HO := hide (fun w => Of_any x w hx.1 hx.2)
      clear hr hr' hg
      cases is
      · go_enter Try.func17, Try.ntmps17
        go_wp2_with fail
        refine (HF.out _ (HV.out _ H0.out)).mono ?_
        rintro e w1 ⟨rfl, hb⟩
        have L1 := hide (H0.out.trans (hb.mono H0.out.size))
        clear hb a0 a1
        go_wp2_with fail
        refine wp_region_quiet_lit (by kernel_rfl) (by kernel_rfl) ?_
        iterate 9 go_big_quiet_step (fail)
        refine wpQuiet_nil ?_
        intro _ hw'
        obtain ⟨nq, hw''⟩ := hw'
        subst hw''
        go_wp2_with fail
        go_ret
        exact ⟨congrArg (fun b => Ending.returned (Value.bool b)) (by rw [← HR.out]; rfl), bdrewN L1.out _⟩
      · go_enter Try.func17, Try.ntmps17
        go_wp2_with fail
        refine (HF.out _ (HV.out _ H0.out)).mono ?_
        rintro e w1 ⟨rfl, hb⟩
        have L1 := hide (H0.out.trans (hb.mono H0.out.size))
        have B1 := hide (B0.out.below hb)
        clear hb a0 a1
        obtain ⟨_, a0, a1, _, _⟩ := B1.out.two
        have KC := hide (fun w' (h : Bel w1 w') => (⟨(B1.out.below h).two.2.1, (B1.out.below h).two.2.2.1⟩ : w'.cell? ⟨w.heap.size, 0, none⟩ = some (.bool s) ∧ w'.cell? ⟨w.heap.size, 1, none⟩ = some (.slice A n c)))
        have KV := hide (fun w' (h : Bel w1 w') => HV.out _ (L1.out.trans (Below.mono h L1.out.size)))
        go_wp2_with fail
        go_region_held3 (fun w' => w'.cell? ⟨w.heap.size, 0, none⟩ = some (.bool s) ∧ w'.cell? ⟨w.heap.size, 1, none⟩ = some (.slice A n c))
          ((refine KC.out _ ?_; repeat (first | assumption | exact Bel.refl _ | refine Bel.drew ?_)))
          (first
            | (go_at_call 11; refine (HO.out _).mono ?_; rintro e w2 ⟨s2, A2, n2, c2, rfl, hB, hb⟩; have k2 : Bel w1 w2 := Bel.trans (by repeat (first | assumption | exact Bel.refl _ | refine Bel.drew ?_)) hb; have B2 := hide (hB.more h5); clear hB hb)
            | (go_at_call 54; refine (Cmp_any M (by omega) _ _ _ _ _ _ _ _ x z _ B2.out (KV.out _ (by repeat (first | assumption | exact Bel.refl _ | refine Bel.drew ?_)))).mono ?_; rintro e w3 ⟨rfl, hb⟩; have k3 : Bel w1 w3 := Bel.trans (by repeat (first | assumption | exact Bel.refl _ | refine Bel.drew ?_)) hb; clear hb))
        go_wp2_with fail
        go_ret
        exact ⟨congrArg (fun b => Ending.returned (Value.bool b)) (by rw [← HR.out]; simp), L1.out.trans (Below.mono k3 L1.out.size)⟩
end Go.Proofs.Ytehkccogbgjcaaa
