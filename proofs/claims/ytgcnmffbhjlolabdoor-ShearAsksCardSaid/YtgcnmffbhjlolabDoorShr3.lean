/-
Contracts of slants: from where a place comes; quarters; the chapter's example. No statement is proved here.
-/
import Derived.Test.YtgcnmffbhjlolabDoorShr2
import Derived.Test.YtgcnmffbhjlolabDoorRight
namespace Go.Proofs.YtgcnmffbhjlolabDoor
open Go.RowKit

theorem SRight_any (x y d : Int) (w : World) : Calls Tryd.prog 26 #[.int .i64 x, .int .i64 y, .int .i64 d] w fun e w' => e = .returned (.bool (decide (RightZ x y d))) ∧ w = w' := by
  have H1 := hide (Swithin_any x 1048576 w (by decide))
  have H2 := hide (Swithin_any y 1048576 w (by decide))
  rw [right_and]
  obtain ⟨b1, h1⟩ : ∃ b, decide (InZ x 1048576) = b := ⟨_, rfl⟩
  obtain ⟨b2, h2⟩ : ∃ b, decide (InZ y 1048576) = b := ⟨_, rfl⟩
  obtain ⟨b3, h3⟩ : ∃ b, decide (1 ≤ d) = b := ⟨_, rfl⟩
  obtain ⟨b4, h4⟩ : ∃ b, decide (d ≤ 16) = b := ⟨_, rfl⟩
  rw [h1] at H1 ⊢
  rw [h2] at H2 ⊢
  rw [h3, h4]
  clear h1 h2
  cases b1
  · go_enter Tryd.func26, Tryd.ntmps26
    go_wp2_with fail
    refine H1.out.mono ?_
    rintro e w1 ⟨rfl, rfl⟩
    go_wp2_with fail
    go_ret
    exact ⟨rfl, rfl⟩
  · cases b2
    · go_enter Tryd.func26, Tryd.ntmps26
      go_wp2_with fail
      refine H1.out.mono ?_
      rintro e w1 ⟨rfl, rfl⟩
      go_wp2_with fail
      refine H2.out.mono ?_
      rintro e w1 ⟨rfl, rfl⟩
      go_wp2_with fail
      go_ret
      exact ⟨rfl, rfl⟩
    · cases b3
      all_goals
        go_enter Tryd.func26, Tryd.ntmps26
        go_wp2_with fail
        refine H1.out.mono ?_
        rintro e w1 ⟨rfl, rfl⟩
        go_wp2_with fail
        refine H2.out.mono ?_
        rintro e w1 ⟨rfl, rfl⟩
        go_wp2_with fail
        go_ret
        exact ⟨rfl, rfl⟩


theorem nearZ_bound {x d : Int} (hx : InZ x 1048576) (hd : 1 ≤ d ∧ d ≤ 16) : -2097168 ≤ nearZ x d ∧ nearZ x d ≤ 2097168 := by
  unfold InZ at hx
  exact fdiv_bound (by omega) ⟨by omega, by omega⟩
theorem on_bound {a b x y : Int} (ha : slope a) (hb : slope b) (hx : -2129936 ≤ x ∧ x ≤ 2129936) (hy : -2129936 ≤ y ∧ y ≤ 2129936) :
    (-189564326 ≤ onX a b x y ∧ onX a b x y ≤ 189564326) ∧ -189564326 ≤ onY a b x y ∧ onY a b x y ≤ 189564326 := by
  have b1 := rZ_bound (z := y) 2129936 ha hy
  have b2 := rZ_bound (a := b) (z := onX1 a x y) 10649681 hb (by unfold onX1; omega)
  have b3 := rZ_bound (a := a) (z := onY a b x y) 44728661 ha (by unfold onY; omega)
  refine ⟨?_, ?_⟩
  · show -189564326 ≤ onX1 a x y + rZ a (onY a b x y) ∧ onX1 a x y + rZ a (onY a b x y) ≤ 189564326
    unfold onX1 at *
    omega
  · unfold onY
    omega
def shX (l : Sl) (x y d : Int) : Int := 65536 * (onX l.a l.b (nearZ x d - l.cx) (nearZ y d - l.cy) + l.cx)
def shY (l : Sl) (x y d : Int) : Int := 65536 * (onY l.a l.b (nearZ x d - l.cx) (nearZ y d - l.cy) + l.cy)
theorem SAt_nil (x y d : Int) (w : World) : Calls Tryd.prog 12 #[.pointer none, .int .i64 x, .int .i64 y, .int .i64 d] w (Says w (.tuple #[.int .i64 0, .int .i64 0, .int .i64 10])) := by
  have HB := hide (Below.refl w.heap.size w)
  go_enter Tryd.func12, Tryd.ntmps12
  go_wp2_with fail
  refine bodyPost_ret (v := .tuple #[.int .i64 0, .int .i64 0, .int .i64 10]) (by simp [results, Tryd.results12, go_sem]) rfl ⟨rfl, HB.out⟩

set_option maxRecDepth 100000 in
set_option maxHeartbeats 4000000 in
theorem SAt_any (g : Nat) (l : Sl) (x y d : Int) (w : World) (h : Bx w g l.cells) (hl : l.ok) :
    Calls Tryd.prog 12 #[.pointer (some ⟨g, 0, none⟩), .int .i64 x, .int .i64 y, .int .i64 d] w
      (Says w (if RightZ x y d then .tuple #[.int .i64 (shX l x y d), .int .i64 (shY l x y d), .int .i64 0] else .tuple #[.int .i64 0, .int .i64 0, .int .i64 11])) := by
  have HR := hide (SRight_any x y d w)
  by_cases hr : RightZ x y d
  · rw [decide_eq_true hr] at HR
    rw [if_pos hr]
    have n1 := nearZ_bound hr.1 hr.2.2
    have n2 := nearZ_bound hr.2.1 hr.2.2
    have hx := hr.1
    have hy := hr.2.1
    have hd := hr.2.2
    have z1 := hl.2.2.1
    have z2 := hl.2.2.2
    unfold InZ at hx hy z1 z2
    have HN1 := hide (fun w => QNear_any x d w (by omega) (by omega) (by omega) (by omega))
    have HN2 := hide (fun w => QNear_any y d w (by omega) (by omega) (by omega) (by omega))
    have G1 := Lib.hid (show Int.fdiv (x + x + d) (d + d) = nearZ x d from rfl)
    have G2 := Lib.hid (show Int.fdiv (y + y + d) (d + d) = nearZ y d from rfl)
    rw [G1.out] at HN1
    rw [G2.out] at HN2
    have HX := Lib.hid (show 65536 * (onX l.a l.b (nearZ x d - l.cx) (nearZ y d - l.cy) + l.cx) = shX l x y d from rfl)
    have HY := Lib.hid (show 65536 * (onY l.a l.b (nearZ x d - l.cx) (nearZ y d - l.cy) + l.cy) = shY l x y d from rfl)
    obtain ⟨nx, hnx⟩ : ∃ n, nearZ x d = n := ⟨_, rfl⟩
    obtain ⟨ny, hny⟩ : ∃ n, nearZ y d = n := ⟨_, rfl⟩
    rw [hnx] at n1 HN1 HX HY
    rw [hny] at n2 HN2 HX HY
    have e1 : IntKind.i64.wrap (nx - l.cx) = nx - l.cx := IntWalk.i64_in _ (by omega)
    have e2 : IntKind.i64.wrap (ny - l.cy) = ny - l.cy := IntWalk.i64_in _ (by omega)
    have hb := on_bound hl.1 hl.2.1 (x := nx - l.cx) (y := ny - l.cy) (by omega) (by omega)
    have HS := hide (fun w n => Calls.quiet_of_same (w := w) (n := n) ((Slanted_on l.a l.b (nx - l.cx) (ny - l.cy) _ hl.1 hl.2.1 (by omega) (by omega)).mono fun _ _ k => ⟨k.1, k.2.symm⟩))
    obtain ⟨X, hX⟩ : ∃ n, onX l.a l.b (nx - l.cx) (ny - l.cy) = n := ⟨_, rfl⟩
    obtain ⟨Y, hY⟩ : ∃ n, onY l.a l.b (nx - l.cx) (ny - l.cy) = n := ⟨_, rfl⟩
    rw [hX] at HS HX hb
    rw [hY] at HS HY hb
    have f1 : wrap64 (65536 * wrap64 (X + l.cx)) = shX l x y d := by rw [IntWalk.wrap64_in (X + l.cx) (by omega), IntWalk.wrap64_in _ (by omega)]; exact HX.out
    have f2 : wrap64 (65536 * wrap64 (Y + l.cy)) = shY l x y d := by rw [IntWalk.wrap64_in (Y + l.cy) (by omega), IntWalk.wrap64_in _ (by omega)]; exact HY.out
    obtain ⟨U, hU⟩ : ∃ n, shX l x y d = n := ⟨_, rfl⟩
    obtain ⟨V, hV⟩ : ∃ n, shY l x y d = n := ⟨_, rfl⟩
    rw [hU] at f1 ⊢
    rw [hV] at f2 ⊢
    have HF1 := Lib.hid f1
    have HF2 := Lib.hid f2
    have c0 := (h.2 0 _ rfl).1
    have c1 := (h.2 1 _ rfl).1
    have c2 := (h.2 2 _ rfl).1
    have c3 := (h.2 3 _ rfl).1
    have HB := hide (Below.refl w.heap.size w)
    have HBX := hide h
    have hmf : ∀ (fn : Fn) (first cap : Array Value) (w : World), (Instr.makeFunc fn first cap).run Tryd.prog w = .ok (.func fn first cap) w := fun _ _ _ _ => rfl
    clear h hl hr n1 n2 hx hy hd z1 z2 HX HY hnx hny hb hX hY hU hV f1 f2 G1 G2
    go_enter Tryd.func12, Tryd.ntmps12
    go_wp2_with fail
    refine HR.out.mono ?_
    rintro e w1 ⟨rfl, rfl⟩
    go_wp2_with fail
    refine (HN1.out _).mono ?_
    rintro e w1 ⟨rfl, rfl⟩
    go_wp2_with fail
    refine (HN2.out _).mono ?_
    rintro e w1 ⟨rfl, rfl⟩
    go_wp2_with fail
    iterate 1
      refine wp_region_quiet_lit (by kernel_rfl) (by kernel_rfl) ?_
      iterate 28 go_big_quiet_step ((go_at_call 28; exact HS.out _ _))
      refine wpQuiet_nil ?_
      intro _ hw'
      obtain ⟨nq, hw''⟩ := hw'
      subst hw''
    have HJ := hide (bdrewN HB.out nq)
    have HX2 := hide (HBX.out.drewN nq)
    clear c0 c1 c2 c3
    generalize w.drewN nq = wE at HJ HX2 ⊢
    have c2 := (HX2.out.2 2 _ rfl).1
    have c3 := (HX2.out.2 3 _ rfl).1
    go_wp2_with fail
    iterate 1
      refine wp_region_quiet_lit (by kernel_rfl) (by kernel_rfl) ?_
      iterate 17 go_big_quiet_step (fail)
      refine wpQuiet_nil ?_
      intro _ hw'
      obtain ⟨nq, hw''⟩ := hw'
      subst hw''
    rw [HF1.out, HF2.out]
    have HJ2 := hide (bdrewN HJ.out nq)
    generalize wE.drewN nq = wF at HJ2 ⊢
    go_wp2_with fail
    refine bodyPost_ret (v := .tuple #[.int .i64 U, .int .i64 V, .int .i64 0]) (by simp [results, Tryd.results12, go_sem]) rfl ⟨rfl, HJ2.out⟩
  · rw [decide_eq_false hr] at HR
    rw [if_neg hr]
    have HB := hide (Below.refl w.heap.size w)
    clear h hl hr
    go_enter Tryd.func12, Tryd.ntmps12
    go_wp2_with fail
    refine HR.out.mono ?_
    rintro e w1 ⟨rfl, rfl⟩
    go_wp2_with fail
    refine bodyPost_ret (v := .tuple #[.int .i64 0, .int .i64 0, .int .i64 11]) (by simp [results, Tryd.results12, go_sem]) rfl ⟨rfl, HB.out⟩

theorem Quarter_0 (w : World) : Calls Tryd.prog 21 #[.int .i64 0] w fun e w' => e = .returned (.slice (some ⟨w.heap.size, 0, none⟩) 4 4) ∧ w' = w.alloc (.cells #[.int .i64 0, .int .i64 0, .int .i64 0, .int .i64 0] 2) := by
  go_enter Tryd.func21, Tryd.ntmps21
  go_wp2_with fail
  go_ret
  exact ⟨rfl, rfl⟩
theorem Quarter_1 (w : World) : Calls Tryd.prog 21 #[.int .i64 1] w fun e w' => e = .returned (.slice (some ⟨w.heap.size, 0, none⟩) 4 4) ∧ w' = w.alloc (.cells #[.int .i64 (-65536), .int .i64 65536, .int .i64 0, .int .i64 0] 2) := by
  go_enter Tryd.func21, Tryd.ntmps21
  go_wp2_with fail
  go_ret
  exact ⟨rfl, rfl⟩
theorem Quarter_3 (w : World) : Calls Tryd.prog 21 #[.int .i64 3] w fun e w' => e = .returned (.slice (some ⟨w.heap.size, 0, none⟩) 4 4) ∧ w' = w.alloc (.cells #[.int .i64 65536, .int .i64 (-65536), .int .i64 0, .int .i64 0] 2) := by
  go_enter Tryd.func21, Tryd.ntmps21
  go_wp2_with fail
  go_ret
  exact ⟨rfl, rfl⟩
theorem Quarter_no (q : Int) (w : World) (h0 : q ≠ 0) (h1 : q ≠ 1) (h3 : q ≠ 3) : Calls Tryd.prog 21 #[.int .i64 q] w fun e w' => e = .returned (.slice none 0 0) ∧ w = w' := by
  have k0 : (q == 0) = false := by simpa using h0
  have k1 : (q == 1) = false := by simpa using h1
  have k3 : (q == 3) = false := by simpa using h3
  clear h0 h1 h3
  go_enter Tryd.func21, Tryd.ntmps21
  go_wp2_with fail
  go_ret
  exact ⟨rfl, rfl⟩
def exS : Sl := ⟨-65536, 65536, 0, 0⟩
theorem exS_x : shX exS 2 3 1 = -196608 := by decide +kernel
theorem exS_y : shY exS 2 3 1 = 131072 := by decide +kernel
theorem exS_r : RightZ 2 3 1 := by decide
theorem exS_ok : exS.ok := by decide
/-- what a slice of four numbers that may be, in memory of its own, is made to -/
theorem New_own (l : Sl) (hl : l.ok) (g : Nat) (w : World) (h : Bx w g l.cells) (ht : Tab w) : Calls Tryd.prog 7 #[.slice (some ⟨g, 0, none⟩) 4 4] w
    fun e w' => Below w.heap.size w w' ∧ ∃ g', e = .returned (.tuple #[.pointer (some ⟨g', 0, none⟩), .int .i64 0]) ∧ Bx w' g' l.cells := by
  have hI : IY w (some ⟨g, 0, none⟩) 4 4 l.list := IY.own (xs := l.list) h (by
    obtain ⟨a, b, c, d⟩ := l
    obtain ⟨h0, h1, h2, h3⟩ := hl
    unfold slope InZ at *
    intro z hz
    simp [Sl.list] at hz
    unfold isI64
    simp only [] at h0 h1 h2 h3
    omega) 4 (Nat.le_refl 4) (by decide)
  refine (SNew_any _ _ _ _ w hI ht).mono ?_
  rintro e w' ⟨hb, ⟨_, l', g', q4, _, q5, q6⟩ | ⟨q3, _⟩⟩
  · obtain rfl : l = l' := by
      obtain ⟨a1, a2, a3, a4⟩ := l
      obtain ⟨b1, b2, b3, b4⟩ := l'
      simp [Sl.list] at q4
      obtain ⟨rfl, rfl, rfl, rfl⟩ := q4
      rfl
    exact ⟨hb, g', q5, q6⟩
  · exact absurd (by rw [slC_four, if_pos hl]) q3

set_option maxHeartbeats 1000000 in
theorem alive22_any (w : World) (ht : Tab w) : Calls Tryd.prog 16 #[] w (Says w (.bool true)) := by
  have H0 := hide (Quarter_1 w)
  have H1 := hide (New_own exS exS_ok)
  have HA := hide (fun (g : Nat) (w : World) (h : Bx w g exS.cells) => SAt_any g exS 2 3 1 w h exS_ok)
  rw [if_pos exS_r, exS_x, exS_y] at HA
  have HT := hide ht
  clear ht
  go_enter Tryd.func16, Tryd.ntmps16
  go_wp2_with fail
  refine H0.out.mono ?_
  rintro e w1 ⟨rfl, hw⟩
  have hB : Bx w1 w.heap.size exS.cells := by rw [hw]; exact Bx.at exS.cells _ rfl
  have hb1 : Below w.heap.size w w1 := by rw [hw]; exact below_alloc w _
  have HN := hide (H1.out w.heap.size w1 hB (HT.out.below hb1))
  have HB1 := hide hb1
  clear hw hB hb1
  go_wp2_with fail
  refine HN.out.mono ?_
  rintro e w2 ⟨hb, g, rfl, hx⟩
  have HX := hide hx
  have HB2 := hide (HB1.out.trans (hb.mono HB1.out.size))
  clear hb hx
  go_wp2_with fail
  refine (HA.out g _ HX.out).mono ?_
  rintro e w3 ⟨rfl, hb⟩
  have HB3 := hide (HB2.out.trans (hb.mono HB2.out.size))
  clear hb
  go_wp2_with fail
  go_ret
  exact ⟨rfl, HB3.out⟩
end Go.Proofs.YtgcnmffbhjlolabDoor
