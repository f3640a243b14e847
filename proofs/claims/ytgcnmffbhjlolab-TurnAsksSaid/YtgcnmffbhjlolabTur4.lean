/-
Contracts of turns: the reference's answer; the chapter's example. No statement is proved here.
-/
import Derived.Test.YtgcnmffbhjlolabTur3
import Derived.Test.YtgcnmffbhjlolabQuo0
namespace Go.Proofs.Ytgcnmffbhjlolab
open Go.RowKit

set_option maxRecDepth 100000 in
set_option maxHeartbeats 4000000 in
theorem RFrom_any (l : Tn) (b o c : Nat) (x y d : Int) (w : World) (h : IY w (some ⟨b, o, none⟩) 3 c l.list) (hl : l.ok) (hr : RightZ x y d) :
    Calls Try.prog 64 #[.slice (some ⟨b, o, none⟩) 3 c, .int .i64 x, .int .i64 y, .int .i64 d] w fun e w' => e = .returned (.tuple #[.int .i64 (turnU l.q ((l.w - 1) * d) x y), .int .i64 (turnV l.q ((l.h - 1) * d) x y)]) ∧ w = w' := by
  have sW := side_small hl.2.1 hr.2.2
  have sH := side_small hl.2.2 hr.2.2
  have sx := small_of hr.1
  have sy := small_of hr.2.1
  obtain ⟨b', o', e', _, hcell⟩ := h.2.2.2.2 (by omega)
  cases e'
  obtain ⟨q, a, k⟩ := l
  have c0 : w.cell? ⟨b, o, none⟩ = some (.int .i64 q) := hcell 0 (by omega)
  have c1 : w.cell? ⟨b, o + 1, none⟩ = some (.int .i64 a) := hcell 1 (by omega)
  have c2 : w.cell? ⟨b, o + 2, none⟩ = some (.int .i64 k) := hcell 2 (by omega)
  have hq : 0 ≤ q ∧ q ≤ 7 := hl.1
  have z1 : 1 ≤ a ∧ a ≤ 32768 := hl.2.1
  have z2 : 1 ≤ k ∧ k ≤ 32768 := hl.2.2
  show Calls _ _ _ w fun e w' => e = .returned (.tuple #[.int .i64 (turnU q ((a - 1) * d) x y), .int .i64 (turnV q ((k - 1) * d) x y)]) ∧ w = w'
  replace sW : small ((a - 1) * d) := sW
  replace sH : small ((k - 1) * d) := sH
  obtain ⟨W, hW⟩ : ∃ W, (a - 1) * d = W := ⟨_, rfl⟩
  obtain ⟨H, hH⟩ : ∃ H, (k - 1) * d = H := ⟨_, rfl⟩
  rw [hW] at sW ⊢
  rw [hH] at sH ⊢
  unfold small at sW sH sx sy
  have e1 : wrap64 (a - 1) = a - 1 := IntWalk.wrap64_in _ (by omega)
  have e2 : wrap64 (k - 1) = k - 1 := IntWalk.wrap64_in _ (by omega)
  have e3 : wrap64 ((a - 1) * d) = W := by rw [hW]; exact IntWalk.wrap64_in _ (by omega)
  have e4 : wrap64 ((k - 1) * d) = H := by rw [hH]; exact IntWalk.wrap64_in _ (by omega)
  have f1 : wrap64 (W - x) = W - x := IntWalk.wrap64_in _ (by omega)
  have f2 : wrap64 (W - y) = W - y := IntWalk.wrap64_in _ (by omega)
  have f3 : wrap64 (H - x) = H - x := IntWalk.wrap64_in _ (by omega)
  have f4 : wrap64 (H - y) = H - y := IntWalk.wrap64_in _ (by omega)
  have f5 : wrap64 (W - (W - x)) = W - (W - x) := IntWalk.wrap64_in _ (by omega)
  have f6 : wrap64 (W - (W - y)) = W - (W - y) := IntWalk.wrap64_in _ (by omega)
  clear hcell h hl hr z1 z2 hW hH sW sH sx sy
  rcases turn_cases hq with rfl | rfl | rfl | rfl | rfl | rfl | rfl | rfl
  all_goals
    clear hq
    go_enter Try.func64, Try.ntmps64
    go_wp2_with fail
    refine bodyPost_ret (v := .tuple #[.int .i64 (turnU _ W x y), .int .i64 (turnV _ H x y)]) (by simp [results, Try.results64, go_sem, turnU, turnV, f1, f2, f3, f4, f5, f6]) rfl ⟨rfl, rfl⟩

set_option maxHeartbeats 1000000 in
theorem RTAt_any (l : Tn) (b o c : Nat) (x y d : Int) (w : World) (h : IY w (some ⟨b, o, none⟩) 3 c l.list) (hl : l.ok) (hr : RightZ x y d) :
    Calls Try.prog 31 #[.slice (some ⟨b, o, none⟩) 3 c, .int .i64 x, .int .i64 y, .int .i64 d] w (Says w (.tuple #[.int .i64 (turnX l x y d), .int .i64 (turnY l x y d)])) := by
  have HF := hide (RFrom_any l b o c x y d w h hl hr)
  have bU := turnU_in (q := l.q) (side_small hl.2.1 hr.2.2) (small_of hr.1) (small_of hr.2.1)
  have bV := turnV_in (q := l.q) (side_small hl.2.2 hr.2.2) (small_of hr.1) (small_of hr.2.1)
  have HX := Lib.hid (show Int.fdiv (65536 * turnU l.q ((l.w - 1) * d) x y) d = turnX l x y d from rfl)
  have HY := Lib.hid (show Int.fdiv (65536 * turnV l.q ((l.h - 1) * d) x y) d = turnY l x y d from rfl)
  obtain ⟨u, hu⟩ : ∃ u, turnU l.q ((l.w - 1) * d) x y = u := ⟨_, rfl⟩
  obtain ⟨v, hv⟩ : ∃ v, turnV l.q ((l.h - 1) * d) x y = v := ⟨_, rfl⟩
  rw [hu, hv] at HF
  rw [hu] at HX bU
  rw [hv] at HY bV
  have hd : d ≠ 0 := by have := hr.2.2.1; omega
  have hd2 : 1 ≤ d ∧ d ≤ 16 := hr.2.2
  have HU := hide (fun w => Down_any (65536 * u) d w (by unfold isI64; omega) (by unfold isI64; omega) hd (by omega))
  have HV := hide (fun w => Down_any (65536 * v) d w (by unfold isI64; omega) (by unfold isI64; omega) hd (by omega))
  have e5 : wrap64 (65536 * u) = 65536 * u := IntWalk.wrap64_in _ (by omega)
  have e6 : wrap64 (65536 * v) = 65536 * v := IntWalk.wrap64_in _ (by omega)
  rw [HX.out] at HU
  rw [HY.out] at HV
  obtain ⟨X, hX⟩ : ∃ X, turnX l x y d = X := ⟨_, rfl⟩
  obtain ⟨Y, hY⟩ : ∃ Y, turnY l x y d = Y := ⟨_, rfl⟩
  rw [hX] at HU ⊢
  rw [hY] at HV ⊢
  have HB := hide (Below.refl w.heap.size w)
  clear h hl hr bU bV HX HY hu hv hd hd2 hX hY
  go_enter Try.func31, Try.ntmps31
  go_wp2_with fail
  refine HF.out.mono ?_
  rintro e w4 ⟨rfl, rfl⟩
  go_wp2_with fail
  refine (HU.out _).mono ?_
  rintro e w4 ⟨rfl, rfl⟩
  go_wp2_with fail
  refine (HV.out _).mono ?_
  rintro e w4 ⟨rfl, rfl⟩
  go_wp2_with fail
  refine bodyPost_ret (v := .tuple #[.int .i64 X, .int .i64 Y]) (by simp [results, Try.results31, go_sem]) rfl ⟨rfl, HB.out⟩

theorem is_one (w : World) : Calls Try.prog 66 #[.int .i64 1] w fun e w' => e = .returned (.bool true) ∧ w = w' := by
  go_enter Try.func66, Try.ntmps66
  go_wp2_with fail
  go_ret
  exact ⟨rfl, rfl⟩
theorem of_two (w : World) : Calls Try.prog 71 #[.int .i64 2, .bool false] w fun e w' => e = .returned (.int .i64 2) ∧ w = w' := by
  have H := hide (QMod_any 2 4 w (by decide) (by decide))
  rw [show (2 : Int) - Int.fdiv 2 4 * 4 = 2 from by decide] at H
  go_enter Try.func71, Try.ntmps71
  go_wp2_with fail
  refine H.out.mono ?_
  rintro e w1 ⟨rfl, rfl⟩
  go_wp2_with fail
  go_ret
  exact ⟨rfl, rfl⟩
theorem of_less (w : World) : Calls Try.prog 71 #[.int .i64 (-1), .bool false] w fun e w' => e = .returned (.int .i64 3) ∧ w = w' := by
  have H := hide (QMod_any (-1) 4 w (by decide) (by decide))
  rw [show (-1 : Int) - Int.fdiv (-1) 4 * 4 = 3 from by decide] at H
  go_enter Try.func71, Try.ntmps71
  go_wp2_with fail
  refine H.out.mono ?_
  rintro e w1 ⟨rfl, rfl⟩
  go_wp2_with fail
  go_ret
  exact ⟨rfl, rfl⟩
theorem Then_one (w : World) : Calls Try.prog 38 #[.int .i64 1, .int .i64 1] w fun e w' => e = .returned (.int .i64 2) ∧ w = w' := by
  have H1 := hide (is_one w)
  have H2 := hide (of_two w)
  go_enter Try.func38, Try.ntmps38
  go_wp2_with fail
  refine H1.out.mono ?_
  rintro e w1 ⟨rfl, rfl⟩
  go_wp2_with fail
  refine H1.out.mono ?_
  rintro e w1 ⟨rfl, rfl⟩
  go_wp2_with fail
  refine H2.out.mono ?_
  rintro e w1 ⟨rfl, rfl⟩
  go_wp2_with fail
  go_ret
  exact ⟨rfl, rfl⟩
theorem Back_one (w : World) : Calls Try.prog 39 #[.int .i64 1] w fun e w' => e = .returned (.int .i64 3) ∧ w = w' := by
  have H1 := hide (is_one w)
  have H2 := hide (of_less w)
  go_enter Try.func39, Try.ntmps39
  go_wp2_with fail
  refine H1.out.mono ?_
  rintro e w1 ⟨rfl, rfl⟩
  go_wp2_with fail
  refine H2.out.mono ?_
  rintro e w1 ⟨rfl, rfl⟩
  go_wp2_with fail
  go_ret
  exact ⟨rfl, rfl⟩
def exT : Tn := ⟨1, 4, 3⟩
theorem exT_x : turnX exT 0 0 1 = 0 := by decide +kernel
theorem exT_y : turnY exT 0 0 1 = 131072 := by decide +kernel
theorem exT_r : RightZ 0 0 1 := by decide
set_option maxHeartbeats 1000000 in
theorem alive23_any (w : World) : Calls Try.prog 32 #[] w (Says w (.bool true)) := by
  have H1 := hide (fun (w : World) (A : Option Addr) (n c : Nat) (h : IY w A n c [1, 4, 3]) => TNew_any A n c [1, 4, 3] w h)
  have HA := hide (fun (g : Nat) (w : World) (h : Bx w g exT.cells) => (TAt_any g exT 0 0 1 w h ⟨by decide, by decide, by decide⟩))
  rw [if_pos exT_r, exT_x, exT_y] at HA
  have HI := hide (fun (w : World) (g : Nat) (h : Bx w g [.int .i64 1, .int .i64 4, .int .i64 3]) => IY.own (xs := [1, 4, 3]) h (by intro z hz; simp at hz; unfold isI64; omega) 3 (Nat.le_refl 3) (by decide))
  have HB := hide (below_alloc w)
  have HT := hide (fun w => Then_one w)
  have HK := hide (fun w => Back_one w)
  go_enter Try.func32, Try.ntmps32
  go_wp2_with fail
  refine Calls.mono (H1.out _ _ _ _ (HI.out _ _ (Bx.at [.int .i64 1, .int .i64 4, .int .i64 3] _ rfl))) ?_
  rintro e w1 ⟨hb, ⟨_, l, g, hl, _, rfl, hx⟩ | ⟨h0, _⟩⟩
  · obtain rfl : l = exT := by
      obtain ⟨a, b, c⟩ := l
      simp [Tn.list] at hl
      obtain ⟨rfl, rfl, rfl⟩ := hl
      rfl
    have HX := hide hx
    have HB1 := hide ((HB.out _).trans (hb.mono (HB.out _).size))
    clear hb hx hl
    go_wp2_with fail
    refine (HA.out g _ HX.out).mono ?_
    rintro e w2 ⟨rfl, hb⟩
    have HB2 := hide (HB1.out.trans (hb.mono HB1.out.size))
    clear hb
    go_wp2_with fail
    refine (HT.out _).mono ?_
    rintro e w3 ⟨rfl, rfl⟩
    go_wp2_with fail
    refine (HK.out _).mono ?_
    rintro e w3 ⟨rfl, rfl⟩
    go_wp2_with fail
    go_ret
    exact ⟨rfl, HB2.out⟩
  · exact absurd (by decide +kernel) h0
end Go.Proofs.Ytgcnmffbhjlolab
