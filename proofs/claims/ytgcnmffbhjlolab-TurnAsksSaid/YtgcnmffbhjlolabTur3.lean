/-
Contracts of turns: from where a place comes, by the package and by the reference; the chapter's example. No statement is proved here.
-/
import Derived.Test.YtgcnmffbhjlolabTur2
import Derived.Test.YtgcnmffbhjlolabDown
import Derived.Deep.DeepCutAuto
namespace Go.Proofs.Ytgcnmffbhjlolab
open Go.RowKit

def turnX (l : Tn) (x y d : Int) : Int := Int.fdiv (65536 * turnU l.q ((l.w - 1) * d) x y) d
def turnY (l : Tn) (x y d : Int) : Int := Int.fdiv (65536 * turnV l.q ((l.h - 1) * d) x y) d
theorem turnU_in {q W x y : Int} (h1 : small W) (h3 : small x) (h4 : small y) : -16777216 ≤ turnU q W x y ∧ turnU q W x y ≤ 16777216 := by
  unfold turnU
  unfold small at *
  repeat' split
  all_goals omega
theorem turnV_in {q H x y : Int} (h1 : small H) (h3 : small x) (h4 : small y) : -16777216 ≤ turnV q H x y ∧ turnV q H x y ≤ 16777216 := by
  unfold turnV
  unfold small at *
  repeat' split
  all_goals omega
theorem side_small {w d : Int} (hw : 1 ≤ w ∧ w ≤ 32768) (hd : 1 ≤ d ∧ d ≤ 16) : small ((w - 1) * d) := by
  have h1 : 0 ≤ (w - 1) * d := Int.mul_nonneg (by omega) (by omega)
  have h2 : (w - 1) * d ≤ 32767 * 16 := Int.mul_le_mul (by omega) (by omega) (by omega) (by omega)
  unfold small; omega
theorem small_of {x : Int} (h : InZ x 1048576) : small x := by unfold InZ at h; unfold small; omega

theorem TAt_nil (x y d : Int) (w : World) : Calls Try.prog 30 #[.pointer none, .int .i64 x, .int .i64 y, .int .i64 d] w (Says w (.tuple #[.int .i64 0, .int .i64 0, .int .i64 10])) := by
  have HB := hide (Below.refl w.heap.size w)
  go_enter Try.func30, Try.ntmps30
  go_wp2_with fail
  refine bodyPost_ret (v := .tuple #[.int .i64 0, .int .i64 0, .int .i64 10]) (by simp [results, Try.results30, go_sem]) rfl ⟨rfl, HB.out⟩
theorem Bx.reads3 {w : World} {g : Nat} {l : Tn} (h : Bx w g l.cells) : w.cell? ⟨g, 0, none⟩ = some (.int .i64 l.q) ∧ w.cell? ⟨g, 1, none⟩ = some (.int .i64 l.w) ∧ w.cell? ⟨g, 2, none⟩ = some (.int .i64 l.h) :=
  ⟨(h.2 0 _ rfl).1, (h.2 1 _ rfl).1, (h.2 2 _ rfl).1⟩
def TAtW (w : World) (g : Nat) (cs : List Value) (W H : Int) (wx : World) : Prop := Bx wx w.heap.size [.int .i64 W, .int .i64 H] ∧ Bx wx g cs ∧ Below w.heap.size w wx

set_option maxRecDepth 100000 in
set_option maxHeartbeats 4000000 in
theorem TAt_any (g : Nat) (l : Tn) (x y d : Int) (w : World) (h : Bx w g l.cells) (hl : l.ok) :
    Calls Try.prog 30 #[.pointer (some ⟨g, 0, none⟩), .int .i64 x, .int .i64 y, .int .i64 d] w
      (Says w (if RightZ x y d then .tuple #[.int .i64 (turnX l x y d), .int .i64 (turnY l x y d), .int .i64 0] else .tuple #[.int .i64 0, .int .i64 0, .int .i64 11])) := by
  have HR := hide (TRight_any x y d w)
  by_cases hr : RightZ x y d
  · rw [decide_eq_true hr] at HR
    rw [if_pos hr]
    have sW := side_small hl.2.1 hr.2.2
    have sH := side_small hl.2.2 hr.2.2
    have sx := small_of hr.1
    have sy := small_of hr.2.1
    have HF := hide (fun w => From_any l.q ((l.w - 1) * d) ((l.h - 1) * d) x y w hl.1 sW sH sx sy)
    have bU := turnU_in (q := l.q) sW sx sy
    have bV := turnV_in (q := l.q) sH sx sy
    have HX := Lib.hid (show Int.fdiv (65536 * turnU l.q ((l.w - 1) * d) x y) d = turnX l x y d from rfl)
    have HY := Lib.hid (show Int.fdiv (65536 * turnV l.q ((l.h - 1) * d) x y) d = turnY l x y d from rfl)
    obtain ⟨W, hW⟩ : ∃ W, (l.w - 1) * d = W := ⟨_, rfl⟩
    obtain ⟨H, hH⟩ : ∃ H, (l.h - 1) * d = H := ⟨_, rfl⟩
    have z1 := hl.2.1
    have z2 := hl.2.2
    have e1 : IntKind.i64.wrap (l.w - 1) = l.w - 1 := IntWalk.i64_in _ (by omega)
    have e2 : IntKind.i64.wrap (l.h - 1) = l.h - 1 := IntWalk.i64_in _ (by omega)
    have e3 : IntKind.i64.wrap ((l.w - 1) * d) = W := by rw [hW] at sW ⊢; unfold small at sW; exact IntWalk.i64_in _ (by omega)
    have e4 : IntKind.i64.wrap ((l.h - 1) * d) = H := by rw [hH] at sH ⊢; unfold small at sH; exact IntWalk.i64_in _ (by omega)
    rw [hW, hH] at HF
    rw [hW] at HX bU
    rw [hH] at HY bV
    obtain ⟨u, hu⟩ : ∃ u, turnU l.q W x y = u := ⟨_, rfl⟩
    obtain ⟨v, hv⟩ : ∃ v, turnV l.q H x y = v := ⟨_, rfl⟩
    rw [hu, hv] at HF
    rw [hu] at HX bU
    rw [hv] at HY bV
    have hd : d ≠ 0 := by have := hr.2.2.1; omega
    have hd2 : 1 ≤ d ∧ d ≤ 16 := hr.2.2
    have HU := hide (fun w => QFloor_any (65536 * u) d w (by omega) (by omega) hd (by omega))
    have HV := hide (fun w => QFloor_any (65536 * v) d w (by omega) (by omega) hd (by omega))
    have e5 : wrap64 (65536 * u) = 65536 * u := IntWalk.wrap64_in _ (by omega)
    have e6 : wrap64 (65536 * v) = 65536 * v := IntWalk.wrap64_in _ (by omega)
    rw [HX.out] at HU
    rw [HY.out] at HV
    obtain ⟨X, hX⟩ : ∃ X, turnX l x y d = X := ⟨_, rfl⟩
    obtain ⟨Y, hY⟩ : ∃ Y, turnY l x y d = Y := ⟨_, rfl⟩
    rw [hX] at HU ⊢
    rw [hY] at HV ⊢
    have HBX := hide h
    clear h hl hr sW sH sx sy bU bV HX HY hW hH z1 z2 hu hv hd hd2 hX hY
    go_enter Try.func30, Try.ntmps30
    go_wp2_with fail
    refine HR.out.mono ?_
    rintro e w1 ⟨rfl, rfl⟩
    obtain ⟨c0, c1, c2⟩ := Bx.reads3 HBX.out
    have KC := hide (fun w' (h : Bx w' g l.cells) => (⟨(h.2 0 _ rfl).1, (h.2 1 _ rfl).1, (h.2 2 _ rfl).1⟩ : w'.cell? ⟨g, 0, none⟩ = some (.int .i64 l.q) ∧ w'.cell? ⟨g, 1, none⟩ = some (.int .i64 l.w) ∧ w'.cell? ⟨g, 2, none⟩ = some (.int .i64 l.h)))
    go_wp2_with fail
    go_cut [11] (fun s wx => s = .pointer (some ⟨w.heap.size, 0, none⟩) ∧ TAtW w g l.cells W H wx)
    case first =>
      go_region_held3 (fun w' => w'.cell? ⟨g, 0, none⟩ = some (.int .i64 l.q) ∧ w'.cell? ⟨g, 1, none⟩ = some (.int .i64 l.w) ∧ w'.cell? ⟨g, 2, none⟩ = some (.int .i64 l.h))
        ((refine KC.out _ ?_; repeat (first | exact HBX.out | refine Bx.drew ?_ | refine Bx.alloc ?_ _)))
        (fail)
      all_goals
        go_wp2_with fail
        go_meet
        exact ⟨rfl, (Bx.at [.int .i64 W, .int .i64 H] _ rfl).drew, (HBX.out.alloc _).drew, (below_alloc w _).drew⟩
    case rest =>
      obtain ⟨rfl, KS, KX, KB⟩ := hcut
      clear c0 c1 c2 KC HBX
      have HKB := hide KB
      have HZ := hide KX
      obtain ⟨c0, _, _⟩ := Bx.reads3 KX
      obtain ⟨_, s0, s1, _, _⟩ := KS.two
      clear KS KX KB
      go_wp2_with fail
      replace c0 := cell_regrown c0
      replace s0 := cell_regrown s0
      replace s1 := cell_regrown s1
      refine wp_region_quiet_below (by kernel_rfl) (by kernel_rfl) ?_
      iterate 13 (go_big_quiet_step ((go_at_call 62; exact Calls.regrown_of (HF.out _))))
      refine wpQuiet_nil ?_
      rintro w3 ⟨pw3, hw3⟩
      have HJ := hide (below_regrown wc pw3.d pw3.os)
      rw [← hw3] at HJ
      have HK := hide (HKB.out.trans (HJ.out.mono HKB.out.size))
      clear c0 s0 s1 HJ hw3
      go_wp2_with fail
      refine (HU.out _).mono ?_
      rintro e w4 ⟨rfl, rfl⟩
      go_wp2_with fail
      refine (HV.out _).mono ?_
      rintro e w4 ⟨rfl, rfl⟩
      go_wp2_with fail
      refine bodyPost_ret (v := .tuple #[.int .i64 X, .int .i64 Y, .int .i64 0]) (by simp [results, Try.results30, go_sem]) rfl ⟨rfl, HK.out⟩
  · rw [decide_eq_false hr] at HR
    rw [if_neg hr]
    have HB := hide (Below.refl w.heap.size w)
    clear h hl hr
    go_enter Try.func30, Try.ntmps30
    go_wp2_with fail
    refine HR.out.mono ?_
    rintro e w1 ⟨rfl, rfl⟩
    go_wp2_with fail
    refine bodyPost_ret (v := .tuple #[.int .i64 0, .int .i64 0, .int .i64 11]) (by simp [results, Try.results30, go_sem]) rfl ⟨rfl, HB.out⟩
end Go.Proofs.Ytgcnmffbhjlolab
