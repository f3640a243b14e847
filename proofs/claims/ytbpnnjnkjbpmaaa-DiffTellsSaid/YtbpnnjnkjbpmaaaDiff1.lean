/-
Contracts of package diff: whether two images can be held against each other, how far two bytes are apart. No statement is proved here.
-/
import Derived.Test.YtbpnnjnkjbpmaaaImg4
import Derived.Test.YtbpnnjnkjbpmaaaDiff0
namespace Go.Proofs.Ytbpnnjnkjbpmaaa
open Go.RowKit

theorem absd_eq (a b : Int) : max a b - min a b = absd a b := by unfold absd; split <;> omega
theorem apart_any (a b : Int) (ha : isByte a) (hb : isByte b) (w : World) : Calls Try.prog 18 #[.int .u8 a, .int .u8 b] w fun e w' => e = .returned (.int .u8 (absd a b)) ∧ w = w' := by
  obtain ⟨a1, a2⟩ := ha
  obtain ⟨b1, b2⟩ := hb
  have hx := if_max
  have hn := if_min
  rw [← absd_eq]
  go_enter Try.func18, Try.ntmps18
  go_wp2_with fail
  go_ret
  exact ⟨rfl, rfl⟩

/-- what is wrong with two images held against each other -/
def dchkZ (x y c n x' y' c' n' : Int) : Int := if checkZ x y c n ≠ 0 then checkZ x y c n else if checkZ x' y' c' n' ≠ 0 then checkZ x' y' c' n' else if c ≠ c' then 10 else if x ≠ x' ∨ y ≠ y' then 12 else 0
set_option maxHeartbeats 1000000 in
theorem DCheck_any (x y c x' y' c' : Int) (A A' : Option Addr) (n cap n' cap' : Nat) (w : World) : Calls Try.prog 10 #[.agg #[.int .i64 x, .int .i64 y, .int .i64 c, .slice A n cap], .agg #[.int .i64 x', .int .i64 y', .int .i64 c', .slice A' n' cap']] w (Says w (.int .i64 (dchkZ x y c n x' y' c' n'))) := by
  have H := hide (below_alloc2 w (.cells #[.int .i64 x, .int .i64 y, .int .i64 c, .slice A n cap] 24) (.cells #[.int .i64 x', .int .i64 y', .int .i64 c', .slice A' n' cap'] 24))
  have P1 := hide (Bx.at (w := w) (g := w.heap.size) [.int .i64 x, .int .i64 y, .int .i64 c, .slice A n cap] 24 rfl)
  have P2 := hide (Bx.at (w := w.alloc (.cells #[.int .i64 x, .int .i64 y, .int .i64 c, .slice A n cap] 24)) (g := w.heap.size + 1) [.int .i64 x', .int .i64 y', .int .i64 c', .slice A' n' cap'] 24 (by simp))
  have C1 := hide (fun w => Check_any x y c A n cap w)
  have C2 := hide (fun w => Check_any x' y' c' A' n' cap' w)
  unfold dchkZ
  obtain ⟨f, hf⟩ : ∃ f, checkZ x y c n = f := ⟨_, rfl⟩
  obtain ⟨g, hg⟩ : ∃ g, checkZ x' y' c' n' = g := ⟨_, rfl⟩
  rw [hf] at C1 ⊢
  rw [hg] at C2 ⊢
  clear hf hg
  by_cases h1 : f = 0
  · subst h1
    rw [if_neg (by simp)]
    by_cases h2 : g = 0
    · subst h2
      rw [if_neg (by simp)]
      by_cases h3 : c = c'
      · rw [if_neg (by simpa using h3)]
        subst h3
        by_cases h4 : x = x'
        · by_cases h5 : y = y'
          · rw [if_neg (by simp [h4, h5])]
            subst h4
            subst h5
            go_enter Try.func10, Try.ntmps10
            go_wp2_with fail
            refine (C1.out _).mono ?_
            rintro e w1 ⟨rfl, hb⟩
            have X1 := hide ((P1.out.alloc _).below hb)
            have Y1 := hide (P2.out.below hb)
            have L1 := hide (H.out.trans (hb.mono (by simp; omega)))
            clear hb
            obtain ⟨_, b0, b1, b2, b3, _, _, _, _⟩ := Y1.out.four
            go_wp2_with fail
            refine (C2.out _).mono ?_
            rintro e w2 ⟨rfl, hb⟩
            have X2 := X1.out.below hb
            have Y2 := Y1.out.below hb
            have L2 := hide (L1.out.trans (hb.mono L1.out.size))
            clear hb b0 b1 b2 b3
            obtain ⟨_, a0, a1, a2, a3, _, _, _, _⟩ := X2.four
            obtain ⟨_, b0, b1, b2, b3, _, _, _, _⟩ := Y2.four
            clear X2 Y2
            go_wp2_with fail
            go_ret
            exact ⟨rfl, L2.out⟩
          · rw [if_pos (.inr h5)]
            have k5 : (y != y') = true := by simpa using h5
            subst h4
            clear h5
            go_enter Try.func10, Try.ntmps10
            go_wp2_with fail
            refine (C1.out _).mono ?_
            rintro e w1 ⟨rfl, hb⟩
            have X1 := hide ((P1.out.alloc _).below hb)
            have Y1 := hide (P2.out.below hb)
            have L1 := hide (H.out.trans (hb.mono (by simp; omega)))
            clear hb
            obtain ⟨_, b0, b1, b2, b3, _, _, _, _⟩ := Y1.out.four
            go_wp2_with fail
            refine (C2.out _).mono ?_
            rintro e w2 ⟨rfl, hb⟩
            have X2 := X1.out.below hb
            have Y2 := Y1.out.below hb
            have L2 := hide (L1.out.trans (hb.mono L1.out.size))
            clear hb b0 b1 b2 b3
            obtain ⟨_, a0, a1, a2, a3, _, _, _, _⟩ := X2.four
            obtain ⟨_, b0, b1, b2, b3, _, _, _, _⟩ := Y2.four
            clear X2 Y2
            go_wp2_with fail
            go_ret
            exact ⟨rfl, L2.out⟩
        · rw [if_pos (.inl h4)]
          have k4 : (x != x') = true := by simpa using h4
          clear h4
          go_enter Try.func10, Try.ntmps10
          go_wp2_with fail
          refine (C1.out _).mono ?_
          rintro e w1 ⟨rfl, hb⟩
          have X1 := hide ((P1.out.alloc _).below hb)
          have Y1 := hide (P2.out.below hb)
          have L1 := hide (H.out.trans (hb.mono (by simp; omega)))
          clear hb
          obtain ⟨_, b0, b1, b2, b3, _, _, _, _⟩ := Y1.out.four
          go_wp2_with fail
          refine (C2.out _).mono ?_
          rintro e w2 ⟨rfl, hb⟩
          have X2 := X1.out.below hb
          have Y2 := Y1.out.below hb
          have L2 := hide (L1.out.trans (hb.mono L1.out.size))
          clear hb b0 b1 b2 b3
          obtain ⟨_, a0, a1, a2, a3, _, _, _, _⟩ := X2.four
          obtain ⟨_, b0, b1, b2, b3, _, _, _, _⟩ := Y2.four
          clear X2 Y2
          go_wp2_with fail
          go_ret
          exact ⟨rfl, L2.out⟩
      · rw [if_pos h3]
        have k3 : (c != c') = true := by simpa using h3
        clear h3
        go_enter Try.func10, Try.ntmps10
        go_wp2_with fail
        refine (C1.out _).mono ?_
        rintro e w1 ⟨rfl, hb⟩
        have X1 := hide ((P1.out.alloc _).below hb)
        have Y1 := hide (P2.out.below hb)
        have L1 := hide (H.out.trans (hb.mono (by simp; omega)))
        clear hb
        obtain ⟨_, b0, b1, b2, b3, _, _, _, _⟩ := Y1.out.four
        go_wp2_with fail
        refine (C2.out _).mono ?_
        rintro e w2 ⟨rfl, hb⟩
        have X2 := X1.out.below hb
        have Y2 := Y1.out.below hb
        have L2 := hide (L1.out.trans (hb.mono L1.out.size))
        clear hb b0 b1 b2 b3
        obtain ⟨_, a0, a1, a2, a3, _, _, _, _⟩ := X2.four
        obtain ⟨_, b0, b1, b2, b3, _, _, _, _⟩ := Y2.four
        clear X2 Y2
        go_wp2_with fail
        go_ret
        exact ⟨rfl, L2.out⟩
    · rw [if_pos h2]
      have k2 : (g != 0) = true := by simpa using h2
      clear h2
      go_enter Try.func10, Try.ntmps10
      go_wp2_with fail
      refine (C1.out _).mono ?_
      rintro e w1 ⟨rfl, hb⟩
      have X1 := hide ((P1.out.alloc _).below hb)
      have Y1 := hide (P2.out.below hb)
      have L1 := hide (H.out.trans (hb.mono (by simp; omega)))
      clear hb
      obtain ⟨_, b0, b1, b2, b3, _, _, _, _⟩ := Y1.out.four
      go_wp2_with fail
      refine (C2.out _).mono ?_
      rintro e w2 ⟨rfl, hb⟩
      have X2 := X1.out.below hb
      have Y2 := Y1.out.below hb
      have L2 := hide (L1.out.trans (hb.mono L1.out.size))
      clear hb b0 b1 b2 b3
      clear X2 Y2
      go_wp2_with fail
      go_ret
      exact ⟨rfl, L2.out⟩
  · rw [if_pos h1]
    have k1 : (f != 0) = true := by simpa using h1
    clear h1
    go_enter Try.func10, Try.ntmps10
    go_wp2_with fail
    refine (C1.out _).mono ?_
    rintro e w1 ⟨rfl, hb⟩
    have X1 := hide ((P1.out.alloc _).below hb)
    have Y1 := hide (P2.out.below hb)
    have L1 := hide (H.out.trans (hb.mono (by simp; omega)))
    clear hb
    go_wp2_with fail
    go_ret
    exact ⟨rfl, L1.out⟩

end Go.Proofs.Ytbpnnjnkjbpmaaa
