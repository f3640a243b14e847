/-
Contracts of slants: how far a row is moved; three slants. No statement is proved here.
-/
import Derived.Test.YtgcnmffbhjlolabDoorQuo1
import Derived.Test.YtgcnmffbhjlolabDoorLen0
import Derived.Test.YtgcnmffbhjlolabDoorInts
import Derived.BigQuiet
import Derived.LoopTactic
import Derived.Deep.QuietTactic
namespace Go.Proofs.YtgcnmffbhjlolabDoor
open Go.RowKit

theorem Swithin_any (x m : Int) (w : World) (hm : 0 ≤ m ∧ m ≤ 9223372036854775807) : Calls Tryd.prog 22 #[.int .i64 x, .int .i64 m] w fun e w' => e = .returned (.bool (decide (InZ x m))) ∧ w = w' := by
  have hw : wrap64 (-m) = -m := IntWalk.wrap64_in _ (by omega)
  obtain ⟨g, hg⟩ : ∃ g, decide (InZ x m) = g := ⟨_, rfl⟩
  rw [hg]
  clear hm
  by_cases a1 : -m ≤ x
  · have hf : decide (x ≤ m) = g := by rw [← hg]; exact decide_eq_decide.2 ⟨fun h => ⟨a1, h⟩, fun h => h.2⟩
    clear hg
    go_enter Tryd.func22, Tryd.ntmps22
    go_wp2_with fail
    go_ret
    exact ⟨rfl, rfl⟩
  · obtain rfl : false = g := by rw [← hg]; exact (decide_eq_false fun h => a1 h.1).symm
    clear hg
    go_enter Tryd.func22, Tryd.ntmps22
    go_wp2_with fail
    go_ret
    exact ⟨rfl, rfl⟩

/-- a number divided by another one, rounded to the nearer one -/
def nearZ (p d : Int) : Int := Int.fdiv (p + p + d) (d + d)
/-- how far the row is moved that lies by z away -/
def rZ (a z : Int) : Int := nearZ (a * z) 65536
def slope (a : Int) : Prop := InZ a 262144
theorem mul_bound {a z : Int} (Z : Nat) (ha : slope a) (hz : -(Z : Int) ≤ z ∧ z ≤ Z) : -(262144 * (Z : Int)) ≤ a * z ∧ a * z ≤ 262144 * (Z : Int) := by
  unfold slope InZ at ha
  have h1 : a.natAbs ≤ 262144 := by omega
  have h2 : z.natAbs ≤ Z := by omega
  have h3 := Nat.mul_le_mul h1 h2
  rw [← Int.natAbs_mul] at h3
  omega
theorem rZ_bound {a z : Int} (Z : Nat) (ha : slope a) (hz : -(Z : Int) ≤ z ∧ z ≤ Z) : -(4 * (Z : Int) + 1) ≤ rZ a z ∧ rZ a z ≤ 4 * (Z : Int) + 1 := by
  have h := mul_bound Z ha hz
  have h2 := floor_left (a := a * z + a * z + 65536) (b := 65536 + 65536) (by decide)
  unfold rZ nearZ
  omega

theorem By_any (a z : Int) (w : World) (ha : slope a) (hz : -1099511627776 ≤ z ∧ z ≤ 1099511627776) : Calls Tryd.prog 39 #[.int .i64 a, .int .i64 z] w fun e w' => e = .returned (.int .i64 (rZ a z)) ∧ w = w' := by
  have h := mul_bound 1099511627776 ha hz
  have e1 : wrap64 (a * z) = a * z := IntWalk.wrap64_in _ (by omega)
  have H := hide (QNear_any (a * z) 65536 w (by omega) (by decide) (by decide) (by omega))
  have HR := Lib.hid (show Int.fdiv (a * z + a * z + 65536) (65536 + 65536) = rZ a z from rfl)
  rw [HR.out] at H
  clear h ha hz
  go_enter Tryd.func39, Tryd.ntmps39
  go_wp2_with fail
  refine H.out.mono ?_
  rintro e w1 ⟨rfl, rfl⟩
  go_wp2_with fail
  go_ret
  exact ⟨rfl, rfl⟩
theorem On_any (a x z : Int) (w : World) (ha : slope a) (hz : -1099511627776 ≤ z ∧ z ≤ 1099511627776) (hx : -1099511627776 ≤ x ∧ x ≤ 1099511627776) :
    Calls Tryd.prog 29 #[.int .i64 a, .int .i64 x, .int .i64 z] w fun e w' => e = .returned (.int .i64 (x + rZ a z)) ∧ w = w' := by
  have h := rZ_bound 1099511627776 ha hz
  have H := hide (By_any a z w ha hz)
  have e1 : wrap64 (x + rZ a z) = x + rZ a z := IntWalk.wrap64_in _ (by omega)
  clear h ha hz hx
  go_enter Tryd.func29, Tryd.ntmps29
  go_wp2_with fail
  refine H.out.mono ?_
  rintro e w1 ⟨rfl, rfl⟩
  go_wp2_with fail
  go_ret
  exact ⟨congrArg (fun v => Ending.returned (.int .i64 v)) e1, rfl⟩
theorem Off_any (a x z : Int) (w : World) (ha : slope a) (hz : -1099511627776 ≤ z ∧ z ≤ 1099511627776) (hx : -1099511627776 ≤ x ∧ x ≤ 1099511627776) :
    Calls Tryd.prog 31 #[.int .i64 a, .int .i64 x, .int .i64 z] w fun e w' => e = .returned (.int .i64 (x - rZ a z)) ∧ w = w' := by
  have h := rZ_bound 1099511627776 ha hz
  have H := hide (By_any a z w ha hz)
  have e1 : wrap64 (x - rZ a z) = x - rZ a z := IntWalk.wrap64_in _ (by omega)
  clear h ha hz hx
  go_enter Tryd.func31, Tryd.ntmps31
  go_wp2_with fail
  refine H.out.mono ?_
  rintro e w1 ⟨rfl, rfl⟩
  go_wp2_with fail
  go_ret
  exact ⟨congrArg (fun v => Ending.returned (.int .i64 v)) e1, rfl⟩

def onX1 (a x y : Int) : Int := x + rZ a y
def onY (a b x y : Int) : Int := y + rZ b (onX1 a x y)
def onX (a b x y : Int) : Int := onX1 a x y + rZ a (onY a b x y)
theorem Slanted_on (a b x y : Int) (w : World) (ha : slope a) (hb : slope b) (hx : -1073741824 ≤ x ∧ x ≤ 1073741824) (hy : -1073741824 ≤ y ∧ y ≤ 1073741824) :
    Calls Tryd.prog 28 #[.int .i64 x, .int .i64 y, .func (.func 29) #[.int .i64 a] #[], .func (.func 29) #[.int .i64 b] #[]] w
      fun e w' => e = .returned (.tuple #[.int .i64 (onX a b x y), .int .i64 (onY a b x y)]) ∧ w = w' := by
  have b1 := rZ_bound (z := y) 1073741824 ha hy
  have b2 := rZ_bound (a := b) (z := onX1 a x y) 5368709121 hb (by unfold onX1; omega)
  have b3 := rZ_bound (a := a) (z := onY a b x y) 22548578309 ha (by unfold onY; omega)
  have H1 := hide (On_any a x y w ha (by omega) (by omega))
  have H2 := hide (On_any b y (onX1 a x y) w hb (by unfold onX1; omega) (by omega))
  have H3 := hide (On_any a (onX1 a x y) (onY a b x y) w ha (by unfold onY; omega) (by unfold onX1; omega))
  have G1 := Lib.hid (show x + rZ a y = onX1 a x y from rfl)
  have G2 := Lib.hid (show y + rZ b (onX1 a x y) = onY a b x y from rfl)
  have G3 := Lib.hid (show onX1 a x y + rZ a (onY a b x y) = onX a b x y from rfl)
  rw [G1.out] at H1
  rw [G2.out] at H2
  rw [G3.out] at H3
  clear ha hb hx hy b1 b2 b3
  go_enter Tryd.func28, Tryd.ntmps28
  go_wp2_with fail
  refine H1.out.mono ?_
  rintro e w1 ⟨rfl, rfl⟩
  go_wp2_with fail
  refine H2.out.mono ?_
  rintro e w1 ⟨rfl, rfl⟩
  go_wp2_with fail
  refine H3.out.mono ?_
  rintro e w1 ⟨rfl, rfl⟩
  go_wp2_with fail
  refine bodyPost_ret (v := .tuple #[.int .i64 (onX a b x y), .int .i64 (onY a b x y)]) (by simp [results, Tryd.results28, go_sem]) rfl ⟨rfl, rfl⟩
end Go.Proofs.YtgcnmffbhjlolabDoor
