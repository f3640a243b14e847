/-
Contract of the reference's check of two images; what three images' differences have to do with each other. No statement is proved here.
-/
import Derived.Test.YtbpnnjnkjbpmaaaDiff1
namespace Go.Proofs.Ytbpnnjnkjbpmaaa
open Go.RowKit

set_option maxHeartbeats 1000000 in
theorem RDCheck_any (x y c x' y' c' : Int) (A A' : Option Addr) (n cap n' cap' : Nat) (w : World) : Calls Try.prog 9 #[.agg #[.int .i64 x, .int .i64 y, .int .i64 c, .slice A n cap], .agg #[.int .i64 x', .int .i64 y', .int .i64 c', .slice A' n' cap']] w (Says w (.int .i64 (dchkZ x y c n x' y' c' n'))) := by
  have H := hide (below_alloc2 w (.cells #[.int .i64 x, .int .i64 y, .int .i64 c, .slice A n cap] 24) (.cells #[.int .i64 x', .int .i64 y', .int .i64 c', .slice A' n' cap'] 24))
  have P1 := hide (Bx.at (w := w) (g := w.heap.size) [.int .i64 x, .int .i64 y, .int .i64 c, .slice A n cap] 24 rfl)
  have P2 := hide (Bx.at (w := w.alloc (.cells #[.int .i64 x, .int .i64 y, .int .i64 c, .slice A n cap] 24)) (g := w.heap.size + 1) [.int .i64 x', .int .i64 y', .int .i64 c', .slice A' n' cap'] 24 (by simp))
  have C1 := hide (fun w => RCheck_any x y c A n cap w)
  have C2 := hide (fun w => RCheck_any x' y' c' A' n' cap' w)
  unfold dchkZ
  obtain ⟨f, hf⟩ : ∃ f, checkZ x y c n = f := ⟨_, rfl⟩
  obtain ⟨g, hg⟩ : ∃ g, checkZ x' y' c' n' = g := ⟨_, rfl⟩
  rw [hf] at C1 ⊢
  rw [hg] at C2 ⊢
  clear hf hg
  by_cases h1 : f = 0
  · subst h1
    rw [if_neg (by simp)]
    by_cases h2 : g = 0
    · subst h2
      rw [if_neg (by simp)]
      by_cases h3 : c = c'
      · rw [if_neg (by simpa using h3)]
        subst h3
        by_cases h4 : x = x'
        · by_cases h5 : y = y'
          · rw [if_neg (by simp [h4, h5])]
            subst h4
            subst h5
            go_enter Try.func9, Try.ntmps9
            go_wp2_with fail
            refine (C1.out _).mono ?_
            rintro e w1 ⟨rfl, hb⟩
            have X1 := hide ((P1.out.alloc _).below hb)
            have Y1 := hide (P2.out.below hb)
            have L1 := hide (H.out.trans (hb.mono (by simp; omega)))
            clear hb
            obtain ⟨_, b0, b1, b2, b3, _, _, _, _⟩ := Y1.out.four
            go_wp2_with fail
            refine (C2.out _).mono ?_
            rintro e w2 ⟨rfl, hb⟩
            have X2 := X1.out.below hb
            have Y2 := Y1.out.below hb
            have L2 := hide (L1.out.trans (hb.mono L1.out.size))
            clear hb b0 b1 b2 b3
            obtain ⟨_, a0, a1, a2, a3, _, _, _, _⟩ := X2.four
            obtain ⟨_, b0, b1, b2, b3, _, _, _, _⟩ := Y2.four
            clear X2 Y2
            go_wp2_with fail
            go_ret
            exact ⟨rfl, L2.out⟩
          · rw [if_pos (.inr h5)]
            have k5 : (y != y') = true := by simpa using h5
            subst h4
            clear h5
            go_enter Try.func9, Try.ntmps9
            go_wp2_with fail
            refine (C1.out _).mono ?_
            rintro e w1 ⟨rfl, hb⟩
            have X1 := hide ((P1.out.alloc _).below hb)
            have Y1 := hide (P2.out.below hb)
            have L1 := hide (H.out.trans (hb.mono (by simp; omega)))
            clear hb
            obtain ⟨_, b0, b1, b2, b3, _, _, _, _⟩ := Y1.out.four
            go_wp2_with fail
            refine (C2.out _).mono ?_
            rintro e w2 ⟨rfl, hb⟩
            have X2 := X1.out.below hb
            have Y2 := Y1.out.below hb
            have L2 := hide (L1.out.trans (hb.mono L1.out.size))
            clear hb b0 b1 b2 b3
            obtain ⟨_, a0, a1, a2, a3, _, _, _, _⟩ := X2.four
            obtain ⟨_, b0, b1, b2, b3, _, _, _, _⟩ := Y2.four
            clear X2 Y2
            go_wp2_with fail
            go_ret
            exact ⟨rfl, L2.out⟩
        · rw [if_pos (.inl h4)]
          have k4 : (x != x') = true := by simpa using h4
          clear h4
          go_enter Try.func9, Try.ntmps9
          go_wp2_with fail
          refine (C1.out _).mono ?_
          rintro e w1 ⟨rfl, hb⟩
          have X1 := hide ((P1.out.alloc _).below hb)
          have Y1 := hide (P2.out.below hb)
          have L1 := hide (H.out.trans (hb.mono (by simp; omega)))
          clear hb
          obtain ⟨_, b0, b1, b2, b3, _, _, _, _⟩ := Y1.out.four
          go_wp2_with fail
          refine (C2.out _).mono ?_
          rintro e w2 ⟨rfl, hb⟩
          have X2 := X1.out.below hb
          have Y2 := Y1.out.below hb
          have L2 := hide (L1.out.trans (hb.mono L1.out.size))
          clear hb b0 b1 b2 b3
          obtain ⟨_, a0, a1, a2, a3, _, _, _, _⟩ := X2.four
          obtain ⟨_, b0, b1, b2, b3, _, _, _, _⟩ := Y2.four
          clear X2 Y2
          go_wp2_with fail
          go_ret
          exact ⟨rfl, L2.out⟩
      · rw [if_pos h3]
        have k3 : (c != c') = true := by simpa using h3
        clear h3
        go_enter Try.func9, Try.ntmps9
        go_wp2_with fail
        refine (C1.out _).mono ?_
        rintro e w1 ⟨rfl, hb⟩
        have X1 := hide ((P1.out.alloc _).below hb)
        have Y1 := hide (P2.out.below hb)
        have L1 := hide (H.out.trans (hb.mono (by simp; omega)))
        clear hb
        obtain ⟨_, b0, b1, b2, b3, _, _, _, _⟩ := Y1.out.four
        go_wp2_with fail
        refine (C2.out _).mono ?_
        rintro e w2 ⟨rfl, hb⟩
        have X2 := X1.out.below hb
        have Y2 := Y1.out.below hb
        have L2 := hide (L1.out.trans (hb.mono L1.out.size))
        clear hb b0 b1 b2 b3
        obtain ⟨_, a0, a1, a2, a3, _, _, _, _⟩ := X2.four
        obtain ⟨_, b0, b1, b2, b3, _, _, _, _⟩ := Y2.four
        clear X2 Y2
        go_wp2_with fail
        go_ret
        exact ⟨rfl, L2.out⟩
    · rw [if_pos h2]
      have k2 : (g != 0) = true := by simpa using h2
      clear h2
      go_enter Try.func9, Try.ntmps9
      go_wp2_with fail
      refine (C1.out _).mono ?_
      rintro e w1 ⟨rfl, hb⟩
      have X1 := hide ((P1.out.alloc _).below hb)
      have Y1 := hide (P2.out.below hb)
      have L1 := hide (H.out.trans (hb.mono (by simp; omega)))
      clear hb
      obtain ⟨_, b0, b1, b2, b3, _, _, _, _⟩ := Y1.out.four
      go_wp2_with fail
      refine (C2.out _).mono ?_
      rintro e w2 ⟨rfl, hb⟩
      have X2 := X1.out.below hb
      have Y2 := Y1.out.below hb
      have L2 := hide (L1.out.trans (hb.mono L1.out.size))
      clear hb b0 b1 b2 b3
      clear X2 Y2
      go_wp2_with fail
      go_ret
      exact ⟨rfl, L2.out⟩
  · rw [if_pos h1]
    have k1 : (f != 0) = true := by simpa using h1
    clear h1
    go_enter Try.func9, Try.ntmps9
    go_wp2_with fail
    refine (C1.out _).mono ?_
    rintro e w1 ⟨rfl, hb⟩
    have X1 := hide ((P1.out.alloc _).below hb)
    have Y1 := hide (P2.out.below hb)
    have L1 := hide (H.out.trans (hb.mono (by simp; omega)))
    clear hb
    go_wp2_with fail
    go_ret
    exact ⟨rfl, L1.out⟩


theorem absd_comm (a b : Int) : absd a b = absd b a := by unfold absd; split <;> split <;> omega
theorem absd_tri (a b c : Int) : absd a b ≤ absd a c + absd c b := by unfold absd; split <;> split <;> split <;> omega
theorem absd_nn (a b : Int) : 0 ≤ absd a b ∧ (absd a b = 0 ↔ a = b) := by unfold absd; split <;> omega
theorem dstep_comm (wd c : Int) (i : Nat) (a b : Int) (d : Df) : dstep wd c i a b d = dstep wd c i b a d := by
  unfold dstep
  by_cases h : a = b
  · rw [if_pos h, if_pos h.symm]
  · have h' : ¬ b = a := fun e => h e.symm
    simp only [h, h', if_false, absd_comm a b]
theorem dfold_comm (wd c : Int) (xs ys : List Int) : ∀ i, dfold wd c xs ys i = dfold wd c ys xs i
  | 0 => rfl
  | i + 1 => by rw [dfold, dfold, dfold_comm wd c xs ys i, dstep_comm]
theorem dfold_self (wd c : Int) (xs : List Int) : ∀ i, dfold wd c xs xs i = ⟨0, 0, 0, 0, 0, 0, 0⟩
  | 0 => rfl
  | i + 1 => by rw [dfold, dfold_self wd c xs i, dstep, if_pos rfl]
theorem dstep_most {wd c : Int} {i : Nat} {a b : Int} {d : Df} (h : 0 ≤ d.most) : (dstep wd c i a b d).most = max d.most (absd a b) := by
  have := absd_nn a b
  unfold dstep
  split
  · omega
  · split <;> rfl
theorem dstep_sum {wd c : Int} {i : Nat} {a b : Int} {d : Df} : (dstep wd c i a b d).sum = d.sum + absd a b := by
  have := absd_nn a b
  unfold dstep
  split
  · omega
  · split <;> rfl
theorem dstep_cnt {wd c : Int} {i : Nat} {a b : Int} {d : Df} : (dstep wd c i a b d).cnt = d.cnt + if absd a b = 0 then 0 else 1 := by
  have := absd_nn a b
  unfold dstep
  split
  · rw [if_pos (by omega)]; omega
  · have e : ¬ absd a b = 0 := by omega
    simp only [e, if_false]
    split <;> rfl
/-- over a third image it is no nearer -/
def Third (ab ac cb : Df) : Prop := ab.most ≤ ac.most + cb.most ∧ ab.sum ≤ ac.sum + cb.sum ∧ ab.cnt ≤ ac.cnt + cb.cnt ∧ (ab.cnt = 0 ↔ ab.sum = 0) ∧ (0 ≤ ab.most ∧ 0 ≤ ac.most ∧ 0 ≤ cb.most) ∧ 0 ≤ ab.cnt ∧ 0 ≤ ab.sum
theorem third (wd c : Int) (xs ys zs : List Int) : ∀ i, Third (dfold wd c xs ys i) (dfold wd c xs zs i) (dfold wd c zs ys i)
  | 0 => by simp [dfold, Third]
  | i + 1 => by
    have h := third wd c xs ys zs i
    rw [dfold, dfold, dfold]
    generalize dfold wd c xs ys i = d1 at *
    generalize dfold wd c xs zs i = d2 at *
    generalize dfold wd c zs ys i = d3 at *
    generalize xs.getD i 0 = a at *
    generalize ys.getD i 0 = b at *
    generalize zs.getD i 0 = z at *
    obtain ⟨h1, h2, h3, h4, ⟨h5, h6, h7⟩, h8, h9⟩ := h
    unfold Third
    rw [dstep_most h5, dstep_most h6, dstep_most h7, dstep_sum, dstep_sum, dstep_sum, dstep_cnt, dstep_cnt, dstep_cnt]
    have t1 := absd_tri a b z
    have t2 := absd_nn a b
    have t3 := absd_nn a z
    have t4 := absd_nn z b
    generalize absd a b = u at *
    generalize absd a z = v at *
    generalize absd z b = q at *
    refine ⟨by omega, by omega, ?_, ?_, by omega, ?_, by omega⟩
    · by_cases e1 : u = 0
      · rw [if_pos e1]; split <;> split <;> omega
      · rw [if_neg e1]
        by_cases e2 : v = 0
        · rw [if_pos e2, if_neg (by omega)]; omega
        · rw [if_neg e2]; split <;> omega
    · by_cases e1 : u = 0
      · rw [if_pos e1]; omega
      · rw [if_neg e1]; omega
    · split <;> omega
theorem dchk_ok {x y c n x' y' c' n' : Int} (h : dchkZ x y c n x' y' c' n' = 0) : fitsZ x y c = 0 ∧ x' = x ∧ y' = y ∧ c' = c ∧ n = x * y * c ∧ n' = x * y * c := by
  unfold dchkZ at h
  by_cases h1 : checkZ x y c n = 0
  · rw [if_neg (by simpa using h1)] at h
    by_cases h2 : checkZ x' y' c' n' = 0
    · rw [if_neg (by simpa using h2)] at h
      by_cases h3 : c = c'
      · rw [if_neg (by simpa using h3)] at h
        by_cases h4 : x ≠ x' ∨ y ≠ y'
        · rw [if_pos h4] at h; omega
        · have e1 : x = x' := by omega
          have e2 : y = y' := by omega
          subst e1 e2 h3
          unfold checkZ at h1 h2
          by_cases f : fitsZ x y c = 0
          · rw [if_pos f] at h1 h2
            refine ⟨f, rfl, rfl, rfl, ?_, ?_⟩
            · by_cases q : n = x * y * c
              · exact q
              · rw [if_neg q] at h1; omega
            · by_cases q : n' = x * y * c
              · exact q
              · rw [if_neg q] at h2; omega
          · rw [if_neg f] at h1; exact absurd h1 f
      · rw [if_pos h3] at h; omega
    · rw [if_pos h2] at h; exact absurd h h2
  · rw [if_pos h1] at h; exact absurd h h1

end Go.Proofs.Ytbpnnjnkjbpmaaa
