/-
The law LensIn: its walk. No statement is proved here.
-/
import Derived.Test.YtgcnmffbhjlolaaLen11
namespace Go.Proofs.Ytgcnmffbhjlolaa
open Go.RowKit

/-- the law's world: its two boxes, the lens's numbers -/
def InW (w : World) (sw sh x y d : Int) (A : Option Addr) (n c : Nat) (xs : List Int) (wx : World) : Prop :=
  Bx wx w.heap.size [.int .i64 sw, .int .i64 sh] ∧ Bx wx (w.heap.size + 1) [.int .i64 x, .int .i64 y, .int .i64 d] ∧ IY wx A n c xs ∧ Below w.heap.size w wx
theorem InW.start {w : World} {A : Option Addr} {n c : Nat} {xs : List Int} (h : IY w A n c xs) (sw sh x y d : Int) :
    InW w sw sh x y d A n c xs ((w.alloc (.cells #[.int .i64 sw, .int .i64 sh] 23)).alloc (.cells #[.int .i64 x, .int .i64 y, .int .i64 d] 32)) :=
  ⟨(Bx.at [.int .i64 sw, .int .i64 sh] _ rfl).alloc _, Bx.at [.int .i64 x, .int .i64 y, .int .i64 d] _ (by simp), h.below (below_alloc2 w _ _), below_alloc2 w _ _⟩
theorem InW.below {w : World} {sw sh x y d : Int} {A : Option Addr} {n c : Nat} {xs : List Int} {wx wy : World} (h : InW w sw sh x y d A n c xs wx) (hb : Below wx.heap.size wx wy) : InW w sw sh x y d A n c xs wy :=
  ⟨h.1.below hb, h.2.1.below hb, h.2.2.1.below hb, h.2.2.2.trans (hb.mono h.2.2.2.size)⟩
theorem InW.drewN {w : World} {sw sh x y d : Int} {A : Option Addr} {n c : Nat} {xs : List Int} {wx : World} (h : InW w sw sh x y d A n c xs wx) (k : Nat) : InW w sw sh x y d A n c xs (wx.drewN k) :=
  ⟨h.1.drewN k, h.2.1.drewN k, h.2.2.1.drewN k, bdrewN h.2.2.2 k⟩
theorem Bx.three {w : World} {g : Nat} {x0 x1 x2 : Value} (h : Bx w g [x0, x1, x2]) : w.cell? ⟨g, 0, none⟩ = some x0 ∧ w.cell? ⟨g, 1, none⟩ = some x1 ∧ w.cell? ⟨g, 2, none⟩ = some x2 :=
  ⟨(h.2 0 _ rfl).1, (h.2 1 _ rfl).1, (h.2 2 _ rfl).1⟩

set_option maxRecDepth 100000 in
set_option maxHeartbeats 4000000 in
theorem LensIn_walk (A : Option Addr) (n c : Nat) (xs : List Int) (sw sh x y d : Int) (w : World) (h : IY w A n c xs) (hx : isI64 x) (hy : isI64 y) :
    Calls Try.prog 5 #[.slice A n c, .agg #[.int .i64 sw, .int .i64 sh], .agg #[.int .i64 x, .int .i64 y, .int .i64 d]] w (Says w (.bool true)) := by
  have HN := hide (fun (w : World) (h : IY w A n c xs) => New_any A n c xs sw sh w h)
  have HR := hide (fun w => RRight_any x y d w)
  have HA := hide (fun w => alive20_any w)
  have HT := hide (fun (g : Nat) (l : Ln) (w : World) (h : Bx w g l.cells) (hl : l.ok) => At_any g l x y d w h hl hx hy)
  have HW := hide (InW.start h sw sh x y d)
  clear h hx hy
  go_enter Try.func5, Try.ntmps5
  go_wp2_with fail
  refine (HN.out _ HW.out.2.2.1).mono ?_
  rintro e w1 ⟨hb, hq⟩
  have HW1 := hide (HW.out.below hb)
  clear HW hb
  obtain ⟨_, a0, a1, _, _⟩ := HW1.out.1.two
  obtain ⟨b0, b1, b2⟩ := HW1.out.2.1.three
  rcases hq with ⟨h0, l, g, rfl, hl, rfl, hx⟩ | ⟨h0, rfl⟩
  · have HL := hide hl
    have HX := hide hx
    have H0 := hide h0
    clear hl hx h0
    go_wp2_with fail
    iterate 1
      refine wp_region_quiet_lit (by kernel_rfl) (by kernel_rfl) ?_
      iterate 9 go_big_quiet_step (fail)
      refine wpQuiet_nil ?_
      intro _ hw'
      obtain ⟨nq, hw''⟩ := hw'
      subst hw''
    have HW2 := hide (HW1.out.drewN nq)
    have HX2 := hide (HX.out.drewN nq)
    clear HW1 HX a0 a1 b0 b1 b2
    generalize w1.drewN nq = w2 at HW2 HX2 ⊢
    obtain ⟨b0, b1, b2⟩ := HW2.out.2.1.three
    by_cases hr : RightZ x y d
    · obtain ⟨_, _, _, _, _, _, _, _, s1, s2, s3, s4⟩ := lensC_zero (show lensC l.list sw sh = 0 by
        have := H0.out
        by_cases k : lensC l.list sw sh = 0
        · exact k
        · rw [lensE_bad k] at this; exact this)
      have HRR := hide (HR.out w2)
      rw [decide_eq_true hr] at HRR
      have p1 := lens_pos (sw := sw) (d := d) s1 s2 hr.2.2.1 hr.2.2.2
      have p2 := lens_pos (sw := sh) (d := d) s3 s4 hr.2.2.1 hr.2.2.2
      have hr1 := hr.1
      have hr2 := hr.2.1
      have hr3 := hr.2.2
      unfold InZ at hr1 hr2
      have e1 : wrap64 (2 * x) = 2 * x := IntWalk.wrap64_in _ (by omega)
      have e2 : wrap64 (2 * y) = 2 * y := IntWalk.wrap64_in _ (by omega)
      have e3 : wrap64 (-d) = -d := IntWalk.wrap64_in _ (by omega)
      have e4 : wrap64 (wrap64 (2 * sw) - 1) = 2 * sw - 1 := by rw [IntWalk.wrap64_in (2 * sw) (by omega), IntWalk.wrap64_in _ (by omega)]
      have e5 : wrap64 (wrap64 (2 * sh) - 1) = 2 * sh - 1 := by rw [IntWalk.wrap64_in (2 * sh) (by omega), IntWalk.wrap64_in _ (by omega)]
      have e6 : wrap64 ((2 * sw - 1) * d) = (2 * sw - 1) * d := IntWalk.wrap64_in _ (by omega)
      have e7 : wrap64 ((2 * sh - 1) * d) = (2 * sh - 1) * d := IntWalk.wrap64_in _ (by omega)
      have HLI := hide (fun k1 k2 k3 k4 => lens_in (cs := l.list) (w := sw) (h := sh) (x := x) (y := y) (d := d) H0.out hr3.1 k1 k2 k3 k4)
      have HRT := hide hr
      clear p1 p2 hr1 hr2 hr3 hr s1 s2 s3 s4
      obtain ⟨m1, hm1⟩ : ∃ m, (2 * sw - 1) * d = m := ⟨_, rfl⟩
      obtain ⟨m2, hm2⟩ : ∃ m, (2 * sh - 1) * d = m := ⟨_, rfl⟩
      rw [hm1] at e6 HLI
      rw [hm2] at e7 HLI
      have e6' : wrap64 ((2 * sw - 1) * d) = m1 := by rw [hm1]; exact e6
      have e7' : wrap64 ((2 * sh - 1) * d) = m2 := by rw [hm2]; exact e7
      clear e6 e7 hm1 hm2
      go_wp2_with fail
      refine HRR.out.mono ?_
      rintro e w3 ⟨rfl, rfl⟩
      by_cases k1 : -d ≤ 2 * x
      · by_cases k2 : 2 * x ≤ m1
        · by_cases k3 : -d ≤ 2 * y
          · by_cases k4 : 2 * y ≤ m2
            · have hs := HLI.out k1 k2 k3 k4
              have HTT := hide (HT.out g l w2 HX2.out HL.out)
              rw [if_pos ⟨HRT.out, hs⟩] at HTT
              clear hs HLI
              go_wp2_with fail
              refine HTT.out.mono ?_
              rintro e w4 ⟨rfl, hb⟩
              have HW4 := hide (HW2.out.below hb)
              clear hb
              go_wp2_with fail
              refine (HA.out _).mono ?_
              rintro e w5 ⟨rfl, hb⟩
              have HB := hide (HW4.out.below hb).2.2.2
              clear hb
              go_wp2_with fail
              go_ret
              exact ⟨rfl, HB.out⟩
            · clear HLI
              go_wp2_with fail
              refine (HA.out _).mono ?_
              rintro e w5 ⟨rfl, hb⟩
              have HB := hide (HW2.out.below hb).2.2.2
              clear hb
              go_wp2_with fail
              go_ret
              exact ⟨rfl, HB.out⟩
          · clear HLI
            go_wp2_with fail
            refine (HA.out _).mono ?_
            rintro e w5 ⟨rfl, hb⟩
            have HB := hide (HW2.out.below hb).2.2.2
            clear hb
            go_wp2_with fail
            go_ret
            exact ⟨rfl, HB.out⟩
        · clear HLI
          go_wp2_with fail
          refine (HA.out _).mono ?_
          rintro e w5 ⟨rfl, hb⟩
          have HB := hide (HW2.out.below hb).2.2.2
          clear hb
          go_wp2_with fail
          go_ret
          exact ⟨rfl, HB.out⟩
      · clear HLI
        go_wp2_with fail
        refine (HA.out _).mono ?_
        rintro e w5 ⟨rfl, hb⟩
        have HB := hide (HW2.out.below hb).2.2.2
        clear hb
        go_wp2_with fail
        go_ret
        exact ⟨rfl, HB.out⟩
    · have HRR := hide (HR.out w2)
      rw [decide_eq_false hr] at HRR
      clear hr
      go_wp2_with fail
      refine HRR.out.mono ?_
      rintro e w3 ⟨rfl, rfl⟩
      go_wp2_with fail
      refine (HA.out _).mono ?_
      rintro e w5 ⟨rfl, hb⟩
      have HB := hide (HW2.out.below hb).2.2.2
      clear hb
      go_wp2_with fail
      go_ret
      exact ⟨rfl, HB.out⟩
  · obtain ⟨v, hv⟩ : ∃ v, lensE xs sw sh = v := ⟨_, rfl⟩
    rw [hv] at h0 ⊢
    have h0' : (v != 0) = true := by simpa using h0
    clear hv
    go_wp2_with fail
    iterate 1
      refine wp_region_quiet_lit (by kernel_rfl) (by kernel_rfl) ?_
      iterate 9 go_big_quiet_step (fail)
      refine wpQuiet_nil ?_
      intro _ hw'
      obtain ⟨nq, hw''⟩ := hw'
      subst hw''
    have HW2 := hide (HW1.out.drewN nq)
    clear HW1 a0 a1 b0 b1 b2
    generalize w1.drewN nq = w2 at HW2 ⊢
    go_wp2_with fail
    refine (HA.out _).mono ?_
    rintro e w5 ⟨rfl, hb⟩
    have HB := hide (HW2.out.below hb).2.2.2
    clear hb
    go_wp2_with fail
    go_ret
    exact ⟨rfl, HB.out⟩
end Go.Proofs.Ytgcnmffbhjlolaa
