/-
Contracts of lenses: how a place is seen, and what may be asked for. No statement is proved here.
-/
import Derived.Test.YtgcnmffbhjlolaaLen1
namespace Go.Proofs.Ytgcnmffbhjlolaa
open Go.RowKit

theorem In_any (x m : Int) (w : World) (hm : 0 ≤ m ∧ m ≤ 9223372036854775807) : Calls Try.prog 18 #[.int .i64 x, .int .i64 m] w fun e w' => e = .returned (.bool (decide (InZ x m))) ∧ w = w' := by
  have hw : wrap64 (-m) = -m := IntWalk.wrap64_in _ (by omega)
  obtain ⟨g, hg⟩ : ∃ g, decide (InZ x m) = g := ⟨_, rfl⟩
  rw [hg]
  clear hm
  by_cases a1 : -m ≤ x
  · have hf : decide (x ≤ m) = g := by rw [← hg]; exact decide_eq_decide.2 ⟨fun h => ⟨a1, h⟩, fun h => h.2⟩
    clear hg
    go_enter Try.func18, Try.ntmps18
    go_wp2_with fail
    go_ret
    exact ⟨rfl, rfl⟩
  · obtain rfl : false = g := by rw [← hg]; exact (decide_eq_false fun h => a1 h.1).symm
    clear hg
    go_enter Try.func18, Try.ntmps18
    go_wp2_with fail
    go_ret
    exact ⟨rfl, rfl⟩

theorem right_and (x y d : Int) : decide (RightZ x y d) = (decide (InZ x 1048576) && decide (InZ y 1048576) && decide (1 ≤ d) && decide (d ≤ 16)) := by
  rw [← Bool.decide_and, ← Bool.decide_and, ← Bool.decide_and]
  exact decide_eq_decide.2 ⟨fun ⟨a, b, c, d⟩ => ⟨⟨⟨a, b⟩, c⟩, d⟩, fun ⟨⟨⟨a, b⟩, c⟩, d⟩ => ⟨a, b, c, d⟩⟩
theorem RRight_any (x y d : Int) (w : World) : Calls Try.prog 12 #[.int .i64 x, .int .i64 y, .int .i64 d] w fun e w' => e = .returned (.bool (decide (RightZ x y d))) ∧ w = w' := by
  have H1 := hide (In_any x 1048576 w (by decide))
  have H2 := hide (In_any y 1048576 w (by decide))
  rw [right_and]
  obtain ⟨b1, h1⟩ : ∃ b, decide (InZ x 1048576) = b := ⟨_, rfl⟩
  obtain ⟨b2, h2⟩ : ∃ b, decide (InZ y 1048576) = b := ⟨_, rfl⟩
  obtain ⟨b3, h3⟩ : ∃ b, decide (1 ≤ d) = b := ⟨_, rfl⟩
  obtain ⟨b4, h4⟩ : ∃ b, decide (d ≤ 16) = b := ⟨_, rfl⟩
  rw [h1] at H1 ⊢
  rw [h2] at H2 ⊢
  rw [h3, h4]
  clear h1 h2
  cases b1
  · go_enter Try.func12, Try.ntmps12
    go_wp2_with fail
    refine H1.out.mono ?_
    rintro e w1 ⟨rfl, rfl⟩
    go_wp2_with fail
    go_ret
    exact ⟨rfl, rfl⟩
  · cases b2
    · go_enter Try.func12, Try.ntmps12
      go_wp2_with fail
      refine H1.out.mono ?_
      rintro e w1 ⟨rfl, rfl⟩
      go_wp2_with fail
      refine H2.out.mono ?_
      rintro e w1 ⟨rfl, rfl⟩
      go_wp2_with fail
      go_ret
      exact ⟨rfl, rfl⟩
    · cases b3
      all_goals
        go_enter Try.func12, Try.ntmps12
        go_wp2_with fail
        refine H1.out.mono ?_
        rintro e w1 ⟨rfl, rfl⟩
        go_wp2_with fail
        refine H2.out.mono ?_
        rintro e w1 ⟨rfl, rfl⟩
        go_wp2_with fail
        go_ret
        exact ⟨rfl, rfl⟩

set_option maxHeartbeats 1000000 in
theorem Aside_any (g : Nat) (p d m f : Int) (ys zs : List Value) (w : World) (h : Bx w g (ys ++ [.int .i64 f] ++ zs)) (hy : ys.length = 2) (hf : 1 ≤ f ∧ f ≤ 32768) (hd : 1 ≤ d ∧ d ≤ 16) (hp : InZ p 2097152) (hm : InZ m 2147483648) :
    Calls Try.prog 32 #[.pointer (some ⟨g, 0, none⟩), .int .i64 p, .int .i64 d, .int .i64 m] w fun e w' => e = .returned (.int .i64 (asideZ p d m f)) ∧ w = w' := by
  have c2 := (h.2 2 (.int .i64 f) (by simp [hy])).1
  have b1 := fdiv_bound (p := 65536 * p) (d := d) (B := 137438953472) hd.1 (by unfold InZ at hp; omega)
  unfold InZ at hp hm
  have e1 : IntKind.i64.wrap (65536 * p) = 65536 * p := IntWalk.i64_in _ (by omega)
  have e2 : wrap64 (Int.fdiv (65536 * p) d - m) = Int.fdiv (65536 * p) d - m := IntWalk.wrap64_in _ (by omega)
  have H1 := hide (QFloor_any (65536 * p) d w (by omega) (by omega) (by omega) (by omega))
  have H2 := hide (QFloor_any (Int.fdiv (65536 * p) d - m) f w (by omega) (by omega) (by omega) (by omega))
  have HA := Lib.hid (show Int.fdiv (Int.fdiv (65536 * p) d - m) f = asideZ p d m f from rfl)
  obtain ⟨u, hu⟩ : ∃ u, Int.fdiv (65536 * p) d = u := ⟨_, rfl⟩
  rw [hu] at H1 H2 HA e2
  rw [HA.out] at H2
  clear h hf hd hp hm b1 hu
  go_enter Try.func32, Try.ntmps32
  go_wp2_with fail
  refine H1.out.mono ?_
  rintro e w1 ⟨rfl, rfl⟩
  go_wp2_with fail
  refine H2.out.mono ?_
  rintro e w1 ⟨rfl, rfl⟩
  go_wp2_with fail
  go_ret
  exact ⟨rfl, rfl⟩

set_option maxHeartbeats 1000000 in
theorem Axis_any (p d m f : Int) (w : World) (hf : 1 ≤ f ∧ f ≤ 32768) (hd : 1 ≤ d ∧ d ≤ 16) (hp : InZ p 2097152) (hm : InZ m 2147483648) :
    Calls Try.prog 21 #[.int .i64 p, .int .i64 d, .int .i64 m, .int .i64 f] w fun e w' => e = .returned (.int .i64 (asideZ p d m f)) ∧ w = w' := by
  have b1 := fdiv_bound (p := 65536 * p) (d := d) (B := 137438953472) hd.1 (by unfold InZ at hp; omega)
  unfold InZ at hp hm
  have e1 : IntKind.i64.wrap (65536 * p) = 65536 * p := IntWalk.i64_in _ (by omega)
  have e2 : wrap64 (Int.fdiv (65536 * p) d - m) = Int.fdiv (65536 * p) d - m := IntWalk.wrap64_in _ (by omega)
  have H1 := hide (Down_any (65536 * p) d w (by unfold isI64; omega) (by unfold isI64; omega) (by omega) (by omega))
  have H2 := hide (Down_any (Int.fdiv (65536 * p) d - m) f w (by unfold isI64; omega) (by unfold isI64; omega) (by omega) (by omega))
  have HA := Lib.hid (show Int.fdiv (Int.fdiv (65536 * p) d - m) f = asideZ p d m f from rfl)
  obtain ⟨u, hu⟩ : ∃ u, Int.fdiv (65536 * p) d = u := ⟨_, rfl⟩
  rw [hu] at H1 H2 HA e2
  rw [HA.out] at H2
  clear hf hd hp hm b1 hu
  go_enter Try.func21, Try.ntmps21
  go_wp2_with fail
  refine H1.out.mono ?_
  rintro e w1 ⟨rfl, rfl⟩
  go_wp2_with fail
  refine H2.out.mono ?_
  rintro e w1 ⟨rfl, rfl⟩
  go_wp2_with fail
  go_ret
  exact ⟨rfl, rfl⟩
end Go.Proofs.Ytgcnmffbhjlolaa
