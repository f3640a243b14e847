/-
Contracts of lenses: what is wrong with the numbers; a lens made. No statement is proved here.
-/
import Derived.Test.YtgcnmffbhjlolaaLen5
import Derived.BigRegion
namespace Go.Proofs.Ytgcnmffbhjlolaa
open Go.RowKit

theorem list7 {α : Type} (l : List α) (h : l.length = 7) : ∃ a b c d e f g, l = [a, b, c, d, e, f, g] := by
  match l, h with
  | [a, b, c, d, e, f, g], _ => exact ⟨a, b, c, d, e, f, g, rfl⟩
theorem all4 (x y z u m : Int) : decide (∀ v ∈ [x, y, z, u], InZ v m) = decide (InZ x m ∧ InZ y m ∧ InZ z m ∧ InZ u m) := decide_eq_decide.2 (by simp)
def Ln.list (l : Ln) : List Int := [l.cx, l.cy, l.f, l.k1, l.k2, l.p1, l.p2]
/-- what is wrong with a lens's numbers, or with a size, each by itself: of seven numbers -/
theorem lensC_seven (l : Ln) (w h : Int) : lensC l.list w h = if ¬ (InZ l.cx 2147483648 ∧ InZ l.cy 2147483648) then 11 else if l.f < 1 then 11 else if 32768 < l.f then 11 else if ¬ (InZ l.k1 65536 ∧ InZ l.k2 65536 ∧ InZ l.p1 65536 ∧ InZ l.p2 65536) then 11
    else if w < 1 then 30 else if 32768 < w then 30 else if h < 1 then 30 else if 32768 < h then 30 else 0 := by
  have e : lensC l.list w h = if ¬ InZ l.cx 2147483648 ∨ ¬ InZ l.cy 2147483648 ∨ l.f < 1 ∨ 32768 < l.f ∨ ¬ InZ l.k1 65536 ∨ ¬ InZ l.k2 65536 ∨ ¬ InZ l.p1 65536 ∨ ¬ InZ l.p2 65536 then 11
      else if w < 1 ∨ 32768 < w ∨ h < 1 ∨ 32768 < h then 30 else 0 := by
    unfold lensC
    rw [if_neg (by simp [Ln.list])]
    rfl
  rw [e]
  unfold InZ
  repeat' split
  all_goals omega

set_option maxHeartbeats 2000000 in
theorem check_seven (l : Ln) (b o c : Nat) (sw sh : Int) (w : World) (h : IY w (some ⟨b, o, none⟩) 7 c l.list) :
    Calls Try.prog 19 #[.slice (some ⟨b, o, none⟩) 7 c, .int .i64 sw, .int .i64 sh] w fun e w' => e = .returned (.int .i64 (lensC l.list sw sh)) ∧ w = w' := by
  have P1 : IY w (some ⟨b, o, none⟩) 2 c [l.cx, l.cy] := by simpa [Ln.list] using h.part 0 2 (by omega) (by omega)
  have P2 : IY w (some ⟨b, o + 3, none⟩) 4 (c - 3) [l.k1, l.k2, l.p1, l.p2] := by simpa [Ln.list] using h.part 3 7 (by omega) (by omega)
  have H1 := hide (within_any 2147483648 _ _ _ _ w P1 (by decide))
  have H2 := hide (within_any 65536 _ _ _ _ w P2 (by decide))
  rw [all2] at H1
  rw [all4] at H2
  rw [lensC_seven]
  have hc : 7 ≤ c := h.2.1
  have hm : c ≤ 9223372036854775807 := by have := h.2.2.1; unfold maxLen at this; omega
  obtain ⟨b', o', e', hlt, hcell⟩ := h.2.2.2.2 (by omega)
  cases e'
  have c2 : w.cell? ⟨b, o + 2, none⟩ = some (.int .i64 l.f) := hcell 2 (by omega)
  have i1 : (2 : Int) ≤ (c : Int) := by omega
  have i2 : (3 : Int) ≤ (c : Int) := by omega
  have i3 : (7 : Int) ≤ (c : Int) := by omega
  clear hcell h P1 P2
  by_cases q1 : InZ l.cx 2147483648 ∧ InZ l.cy 2147483648
  · rw [if_neg (not_not_intro q1)]
    rw [decide_eq_true q1] at H1
    by_cases q2 : l.f < 1
    · rw [if_pos q2]
      go_enter Try.func19, Try.ntmps19
      go_wp2_with fail
      refine H1.out.mono ?_
      rintro e w1 ⟨rfl, rfl⟩
      go_wp2_with fail
      go_ret
      exact ⟨rfl, rfl⟩
    · rw [if_neg q2]
      by_cases q3 : 32768 < l.f
      · rw [if_pos q3]
        go_enter Try.func19, Try.ntmps19
        go_wp2_with fail
        refine H1.out.mono ?_
        rintro e w1 ⟨rfl, rfl⟩
        go_wp2_with fail
        go_ret
        exact ⟨rfl, rfl⟩
      · rw [if_neg q3]
        by_cases q4 : InZ l.k1 65536 ∧ InZ l.k2 65536 ∧ InZ l.p1 65536 ∧ InZ l.p2 65536
        · rw [if_neg (not_not_intro q4)]
          rw [decide_eq_true q4] at H2
          clear q1 q4
          by_cases q5 : sw < 1
          · rw [if_pos q5]
            go_enter Try.func19, Try.ntmps19
            go_wp2_with fail
            refine H1.out.mono ?_
            rintro e w1 ⟨rfl, rfl⟩
            go_wp2_with fail
            refine H2.out.mono ?_
            rintro e w1 ⟨rfl, rfl⟩
            go_wp2_with fail
            go_ret
            exact ⟨rfl, rfl⟩
          · rw [if_neg q5]
            by_cases q6 : 32768 < sw
            · rw [if_pos q6]
              go_enter Try.func19, Try.ntmps19
              go_wp2_with fail
              refine H1.out.mono ?_
              rintro e w1 ⟨rfl, rfl⟩
              go_wp2_with fail
              refine H2.out.mono ?_
              rintro e w1 ⟨rfl, rfl⟩
              go_wp2_with fail
              go_ret
              exact ⟨rfl, rfl⟩
            · rw [if_neg q6]
              by_cases q7 : sh < 1
              · rw [if_pos q7]
                go_enter Try.func19, Try.ntmps19
                go_wp2_with fail
                refine H1.out.mono ?_
                rintro e w1 ⟨rfl, rfl⟩
                go_wp2_with fail
                refine H2.out.mono ?_
                rintro e w1 ⟨rfl, rfl⟩
                go_wp2_with fail
                go_ret
                exact ⟨rfl, rfl⟩
              · rw [if_neg q7]
                by_cases q8 : 32768 < sh
                · rw [if_pos q8]
                  go_enter Try.func19, Try.ntmps19
                  go_wp2_with fail
                  refine H1.out.mono ?_
                  rintro e w1 ⟨rfl, rfl⟩
                  go_wp2_with fail
                  refine H2.out.mono ?_
                  rintro e w1 ⟨rfl, rfl⟩
                  go_wp2_with fail
                  go_ret
                  exact ⟨rfl, rfl⟩
                · rw [if_neg q8]
                  go_enter Try.func19, Try.ntmps19
                  go_wp2_with fail
                  refine H1.out.mono ?_
                  rintro e w1 ⟨rfl, rfl⟩
                  go_wp2_with fail
                  refine H2.out.mono ?_
                  rintro e w1 ⟨rfl, rfl⟩
                  go_wp2_with fail
                  go_ret
                  exact ⟨rfl, rfl⟩
        · rw [if_pos q4]
          rw [decide_eq_false q4] at H2
          clear q1 q4
          go_enter Try.func19, Try.ntmps19
          go_wp2_with fail
          refine H1.out.mono ?_
          rintro e w1 ⟨rfl, rfl⟩
          go_wp2_with fail
          refine H2.out.mono ?_
          rintro e w1 ⟨rfl, rfl⟩
          go_wp2_with fail
          go_ret
          exact ⟨rfl, rfl⟩
  · rw [if_pos q1]
    rw [decide_eq_false q1] at H1
    clear q1
    go_enter Try.func19, Try.ntmps19
    go_wp2_with fail
    refine H1.out.mono ?_
    rintro e w1 ⟨rfl, rfl⟩
    go_wp2_with fail
    go_ret
    exact ⟨rfl, rfl⟩

theorem check_other (A : Option Addr) (n c : Nat) (xs : List Int) (sw sh : Int) (w : World) (h : IY w A n c xs) (hn : n ≠ 7) :
    Calls Try.prog 19 #[.slice A n c, .int .i64 sw, .int .i64 sh] w fun e w' => e = .returned (.int .i64 (lensC xs sw sh)) ∧ w = w' := by
  have e : lensC xs sw sh = 12 := by rw [lensC, if_pos (by rw [h.1]; exact hn)]
  rw [e]
  have i1 : ((n : Int) == 7) = false := by simp; omega
  have i2 : ((n : Int) != 7) = true := by simp; omega
  clear h e hn
  go_enter Try.func19, Try.ntmps19
  go_wp2_with fail
  go_ret
  exact ⟨rfl, rfl⟩
end Go.Proofs.Ytgcnmffbhjlolaa
