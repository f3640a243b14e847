/-
The law ShearQuarters: its walk. No statement is proved here.
-/
import Derived.Test.YtgcnmffbhjlolabDoorShr3
namespace Go.Proofs.YtgcnmffbhjlolabDoor
open Go.RowKit

theorem rZ_one (z : Int) : rZ 65536 z = z := by
  have h := floor_left (a := 65536 * z + 65536 * z + 65536) (b := 65536 + 65536) (by decide)
  unfold rZ nearZ
  omega
theorem rZ_less (z : Int) : rZ (-65536) z = -z := by
  have h := floor_left (a := -65536 * z + -65536 * z + 65536) (b := 65536 + 65536) (by decide)
  unfold rZ nearZ
  omega
theorem rZ_zero (z : Int) : rZ 0 z = 0 := by
  have h := floor_left (a := 0 * z + 0 * z + 65536) (b := 65536 + 65536) (by decide)
  unfold rZ nearZ
  rw [Int.zero_mul] at *
  omega
theorem near_one (x : Int) : nearZ x 1 = x := by
  have h := floor_left (a := x + x + 1) (b := 1 + 1) (by decide)
  unfold nearZ
  omega
def S0 : Sl := ⟨0, 0, 0, 0⟩
def S3 : Sl := ⟨65536, -65536, 0, 0⟩
theorem q0 (x y : Int) : shX S0 x y 1 = 65536 * x ∧ shY S0 x y 1 = 65536 * y := by
  unfold shX shY onX onY onX1 S0
  simp only [near_one, rZ_zero]
  omega
theorem q1 (x y : Int) : shX exS x y 1 = 65536 * -y ∧ shY exS x y 1 = 65536 * x := by
  unfold shX shY onX onY onX1 exS
  simp only [near_one, rZ_less, rZ_one]
  omega
theorem q3 (x y : Int) : shX S3 x y 1 = 65536 * y ∧ shY S3 x y 1 = 65536 * -x := by
  unfold shX shY onX onY onX1 S3
  simp only [near_one, rZ_less, rZ_one]
  omega
theorem S0_ok : S0.ok := by decide
theorem S3_ok : S3.ok := by decide

set_option maxRecDepth 100000 in
set_option maxHeartbeats 4000000 in
theorem ShearQuarters_0 (x y : Int) (w : World) (ht : Tab w) (hx : -2147483648 ≤ x ∧ x ≤ 2147483647) (hy : -2147483648 ≤ y ∧ y ≤ 2147483647) :
    Calls Tryd.prog 6 #[.int .i64 0, .int .i32 x, .int .i32 y] w (Says w (.bool true)) := by
  have H0 := hide (Quarter_0 w)
  have H1 := hide (New_own S0 S0_ok)
  have HT := hide (fun (g : Nat) (w : World) (h : Bx w g S0.cells) => SAt_any g S0 x y 1 w h S0_ok)
  have HR := hide (fun w => RRight_any x y 1 w)
  have HA := hide (fun w h => alive22_any w h)
  have HTab := hide ht
  have e1 : wrap64 x = x := IntWalk.wrap64_in _ (by omega)
  have e2 : wrap64 y = y := IntWalk.wrap64_in _ (by omega)
  have e3 : IntKind.i64.wrap x = x := IntWalk.i64_in _ (by omega)
  have e4 : IntKind.i64.wrap y = y := IntWalk.i64_in _ (by omega)
  have e5 : wrap64 (-x) = -x := IntWalk.wrap64_in _ (by omega)
  have e6 : wrap64 (-y) = -y := IntWalk.wrap64_in _ (by omega)
  have e7 : wrap64 (65536 * (x)) = 65536 * (x) := IntWalk.wrap64_in _ (by omega)
  have e8 : wrap64 (65536 * (y)) = 65536 * (y) := IntWalk.wrap64_in _ (by omega)
  clear ht hx hy
  go_enter Tryd.func6, Tryd.ntmps6
  go_wp2_with fail
  refine H0.out.mono ?_
  rintro e w1 ⟨rfl, hw⟩
  have hB : Bx w1 w.heap.size S0.cells := by rw [hw]; exact Bx.at S0.cells _ rfl
  have hb1 : Below w.heap.size w w1 := by rw [hw]; exact below_alloc w _
  have HN := hide (H1.out w.heap.size w1 hB (HTab.out.below hb1))
  have HB1 := hide hb1
  clear hw hB hb1
  go_wp2_with fail
  refine HN.out.mono ?_
  rintro e w2 ⟨hb, g, rfl, hx⟩
  have HX := hide hx
  have HB2 := hide (HB1.out.trans (hb.mono HB1.out.size))
  clear hb hx
  have HTT := hide (HT.out g w2 HX.out)
  by_cases kr : RightZ x y 1
  · rw [if_pos kr, (q0 x y).1, (q0 x y).2] at HTT
    have HRR := hide (fun w => HR.out w)
    rw [decide_eq_true kr] at HRR
    clear kr
    go_wp2_with fail
    refine HTT.out.mono ?_
    rintro e w3 ⟨rfl, hb⟩
    have HB3 := hide (HB2.out.trans (hb.mono HB2.out.size))
    clear hb
    go_wp2_with fail
    refine (HRR.out _).mono ?_
    rintro e w4 ⟨rfl, rfl⟩
    go_wp2_with fail
    refine (HA.out _ (HTab.out.below HB3.out)).mono ?_
    rintro e w5 ⟨rfl, hb⟩
    have HB4 := hide (HB3.out.trans (hb.mono HB3.out.size))
    clear hb
    go_wp2_with fail
    go_ret
    exact ⟨rfl, HB4.out⟩
  · rw [if_neg kr] at HTT
    have HRR := hide (fun w => HR.out w)
    rw [decide_eq_false kr] at HRR
    clear kr
    go_wp2_with fail
    refine HTT.out.mono ?_
    rintro e w3 ⟨rfl, hb⟩
    have HB3 := hide (HB2.out.trans (hb.mono HB2.out.size))
    clear hb
    go_wp2_with fail
    refine (HRR.out _).mono ?_
    rintro e w4 ⟨rfl, rfl⟩
    go_wp2_with fail
    refine (HA.out _ (HTab.out.below HB3.out)).mono ?_
    rintro e w5 ⟨rfl, hb⟩
    have HB4 := hide (HB3.out.trans (hb.mono HB3.out.size))
    clear hb
    go_wp2_with fail
    go_ret
    exact ⟨rfl, HB4.out⟩

set_option maxRecDepth 100000 in
set_option maxHeartbeats 4000000 in
theorem ShearQuarters_1 (x y : Int) (w : World) (ht : Tab w) (hx : -2147483648 ≤ x ∧ x ≤ 2147483647) (hy : -2147483648 ≤ y ∧ y ≤ 2147483647) :
    Calls Tryd.prog 6 #[.int .i64 1, .int .i32 x, .int .i32 y] w (Says w (.bool true)) := by
  have H0 := hide (Quarter_1 w)
  have H1 := hide (New_own exS exS_ok)
  have HT := hide (fun (g : Nat) (w : World) (h : Bx w g exS.cells) => SAt_any g exS x y 1 w h exS_ok)
  have HR := hide (fun w => RRight_any x y 1 w)
  have HA := hide (fun w h => alive22_any w h)
  have HTab := hide ht
  have e1 : wrap64 x = x := IntWalk.wrap64_in _ (by omega)
  have e2 : wrap64 y = y := IntWalk.wrap64_in _ (by omega)
  have e3 : IntKind.i64.wrap x = x := IntWalk.i64_in _ (by omega)
  have e4 : IntKind.i64.wrap y = y := IntWalk.i64_in _ (by omega)
  have e5 : wrap64 (-x) = -x := IntWalk.wrap64_in _ (by omega)
  have e6 : wrap64 (-y) = -y := IntWalk.wrap64_in _ (by omega)
  have e7 : wrap64 (65536 * (-y)) = 65536 * (-y) := IntWalk.wrap64_in _ (by omega)
  have e8 : wrap64 (65536 * (x)) = 65536 * (x) := IntWalk.wrap64_in _ (by omega)
  clear ht hx hy
  go_enter Tryd.func6, Tryd.ntmps6
  go_wp2_with fail
  refine H0.out.mono ?_
  rintro e w1 ⟨rfl, hw⟩
  have hB : Bx w1 w.heap.size exS.cells := by rw [hw]; exact Bx.at exS.cells _ rfl
  have hb1 : Below w.heap.size w w1 := by rw [hw]; exact below_alloc w _
  have HN := hide (H1.out w.heap.size w1 hB (HTab.out.below hb1))
  have HB1 := hide hb1
  clear hw hB hb1
  go_wp2_with fail
  refine HN.out.mono ?_
  rintro e w2 ⟨hb, g, rfl, hx⟩
  have HX := hide hx
  have HB2 := hide (HB1.out.trans (hb.mono HB1.out.size))
  clear hb hx
  have HTT := hide (HT.out g w2 HX.out)
  by_cases kr : RightZ x y 1
  · rw [if_pos kr, (q1 x y).1, (q1 x y).2] at HTT
    have HRR := hide (fun w => HR.out w)
    rw [decide_eq_true kr] at HRR
    clear kr
    go_wp2_with fail
    refine HTT.out.mono ?_
    rintro e w3 ⟨rfl, hb⟩
    have HB3 := hide (HB2.out.trans (hb.mono HB2.out.size))
    clear hb
    go_wp2_with fail
    refine (HRR.out _).mono ?_
    rintro e w4 ⟨rfl, rfl⟩
    go_wp2_with fail
    refine (HA.out _ (HTab.out.below HB3.out)).mono ?_
    rintro e w5 ⟨rfl, hb⟩
    have HB4 := hide (HB3.out.trans (hb.mono HB3.out.size))
    clear hb
    go_wp2_with fail
    go_ret
    exact ⟨rfl, HB4.out⟩
  · rw [if_neg kr] at HTT
    have HRR := hide (fun w => HR.out w)
    rw [decide_eq_false kr] at HRR
    clear kr
    go_wp2_with fail
    refine HTT.out.mono ?_
    rintro e w3 ⟨rfl, hb⟩
    have HB3 := hide (HB2.out.trans (hb.mono HB2.out.size))
    clear hb
    go_wp2_with fail
    refine (HRR.out _).mono ?_
    rintro e w4 ⟨rfl, rfl⟩
    go_wp2_with fail
    refine (HA.out _ (HTab.out.below HB3.out)).mono ?_
    rintro e w5 ⟨rfl, hb⟩
    have HB4 := hide (HB3.out.trans (hb.mono HB3.out.size))
    clear hb
    go_wp2_with fail
    go_ret
    exact ⟨rfl, HB4.out⟩

set_option maxRecDepth 100000 in
set_option maxHeartbeats 4000000 in
theorem ShearQuarters_3 (x y : Int) (w : World) (ht : Tab w) (hx : -2147483648 ≤ x ∧ x ≤ 2147483647) (hy : -2147483648 ≤ y ∧ y ≤ 2147483647) :
    Calls Tryd.prog 6 #[.int .i64 3, .int .i32 x, .int .i32 y] w (Says w (.bool true)) := by
  have H0 := hide (Quarter_3 w)
  have H1 := hide (New_own S3 S3_ok)
  have HT := hide (fun (g : Nat) (w : World) (h : Bx w g S3.cells) => SAt_any g S3 x y 1 w h S3_ok)
  have HR := hide (fun w => RRight_any x y 1 w)
  have HA := hide (fun w h => alive22_any w h)
  have HTab := hide ht
  have e1 : wrap64 x = x := IntWalk.wrap64_in _ (by omega)
  have e2 : wrap64 y = y := IntWalk.wrap64_in _ (by omega)
  have e3 : IntKind.i64.wrap x = x := IntWalk.i64_in _ (by omega)
  have e4 : IntKind.i64.wrap y = y := IntWalk.i64_in _ (by omega)
  have e5 : wrap64 (-x) = -x := IntWalk.wrap64_in _ (by omega)
  have e6 : wrap64 (-y) = -y := IntWalk.wrap64_in _ (by omega)
  have e7 : wrap64 (65536 * (y)) = 65536 * (y) := IntWalk.wrap64_in _ (by omega)
  have e8 : wrap64 (65536 * (-x)) = 65536 * (-x) := IntWalk.wrap64_in _ (by omega)
  clear ht hx hy
  go_enter Tryd.func6, Tryd.ntmps6
  go_wp2_with fail
  refine H0.out.mono ?_
  rintro e w1 ⟨rfl, hw⟩
  have hB : Bx w1 w.heap.size S3.cells := by rw [hw]; exact Bx.at S3.cells _ rfl
  have hb1 : Below w.heap.size w w1 := by rw [hw]; exact below_alloc w _
  have HN := hide (H1.out w.heap.size w1 hB (HTab.out.below hb1))
  have HB1 := hide hb1
  clear hw hB hb1
  go_wp2_with fail
  refine HN.out.mono ?_
  rintro e w2 ⟨hb, g, rfl, hx⟩
  have HX := hide hx
  have HB2 := hide (HB1.out.trans (hb.mono HB1.out.size))
  clear hb hx
  have HTT := hide (HT.out g w2 HX.out)
  by_cases kr : RightZ x y 1
  · rw [if_pos kr, (q3 x y).1, (q3 x y).2] at HTT
    have HRR := hide (fun w => HR.out w)
    rw [decide_eq_true kr] at HRR
    clear kr
    go_wp2_with fail
    refine HTT.out.mono ?_
    rintro e w3 ⟨rfl, hb⟩
    have HB3 := hide (HB2.out.trans (hb.mono HB2.out.size))
    clear hb
    go_wp2_with fail
    refine (HRR.out _).mono ?_
    rintro e w4 ⟨rfl, rfl⟩
    go_wp2_with fail
    refine (HA.out _ (HTab.out.below HB3.out)).mono ?_
    rintro e w5 ⟨rfl, hb⟩
    have HB4 := hide (HB3.out.trans (hb.mono HB3.out.size))
    clear hb
    go_wp2_with fail
    go_ret
    exact ⟨rfl, HB4.out⟩
  · rw [if_neg kr] at HTT
    have HRR := hide (fun w => HR.out w)
    rw [decide_eq_false kr] at HRR
    clear kr
    go_wp2_with fail
    refine HTT.out.mono ?_
    rintro e w3 ⟨rfl, hb⟩
    have HB3 := hide (HB2.out.trans (hb.mono HB2.out.size))
    clear hb
    go_wp2_with fail
    refine (HRR.out _).mono ?_
    rintro e w4 ⟨rfl, rfl⟩
    go_wp2_with fail
    refine (HA.out _ (HTab.out.below HB3.out)).mono ?_
    rintro e w5 ⟨rfl, hb⟩
    have HB4 := hide (HB3.out.trans (hb.mono HB3.out.size))
    clear hb
    go_wp2_with fail
    go_ret
    exact ⟨rfl, HB4.out⟩

theorem ShearQuarters_walk (q x y : Int) (w : World) (ht : Tab w) (hx : -2147483648 ≤ x ∧ x ≤ 2147483647) (hy : -2147483648 ≤ y ∧ y ≤ 2147483647) :
    Calls Tryd.prog 6 #[.int .i64 q, .int .i32 x, .int .i32 y] w (Says w (.bool true)) := by
  by_cases h0 : q = 0
  · subst h0; exact ShearQuarters_0 x y w ht hx hy
  · by_cases h1 : q = 1
    · subst h1; exact ShearQuarters_1 x y w ht hx hy
    · by_cases h3 : q = 3
      · subst h3; exact ShearQuarters_3 x y w ht hx hy
      · have H0 := hide (Quarter_no q w h0 h1 h3)
        have HA := hide (fun w h => alive22_any w h)
        have HTab := hide ht
        have k0 : (q != 0) = true := by simpa using h0
        have k1 : (q != 1) = true := by simpa using h1
        have k3 : (q != 3) = true := by simpa using h3
        clear ht hx hy h0 h1 h3
        go_enter Tryd.func6, Tryd.ntmps6
        go_wp2_with fail
        refine H0.out.mono ?_
        rintro e w1 ⟨rfl, rfl⟩
        go_wp2_with fail
        refine (HA.out _ HTab.out).mono ?_
        rintro e w5 ⟨rfl, hb⟩
        have HB4 := hide hb
        clear hb
        go_wp2_with fail
        go_ret
        exact ⟨rfl, HB4.out⟩
end Go.Proofs.YtgcnmffbhjlolabDoor
